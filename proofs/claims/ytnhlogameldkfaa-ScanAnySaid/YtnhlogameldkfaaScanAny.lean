/- The law ScanAny (whatever bytes come: they begin with an instruction that has these bytes, but for its prefixes' order, or there is none) returns true whatever the arguments, and each argument reads afterwards as before. There is no condition on the arguments. -/
import Derived.Test.YtnhlogameldkfaaRows
import Derived.Test.YtnhlogameldkfaaScanG
import Derived.Deep.CutBlock
import Derived.Test.YtnhlogameldkfaaOpen
import Derived.Test.YtnhlogameldkfaaBytesArg
import Derived.WalkKit
import Derived.ProofKit
import Derived.OpenShut
import Derived.ShutString
import Derived.ChangeOld
import Derived.Below
namespace Go.Proofs.Ytnhlogameldkfaa.scanAny
open Go.ChangeShapes Go.WideShapes Go.ChangeAt Go.RowKit
open Go.ChangeMaps (open_string shut_string)
set_option linter.unusedVariables false
set_option linter.unusedSimpArgs false

theorem own : ownKnob Try.prog.godebug = none := by kernel_rfl
theorem laidOut : laidOutB Try.prog = true := by kernel_rfl






theorem tText : TextTy Try.prog 26 5 9 := ⟨Try.underlying26, Try.underlying5, Try.underlying9⟩
theorem eq_self (i : InstZ) : eqB Try.prog 9 24 (.agg (encI i)) (.agg (encI i)) = some true := by rw [eqB_inst, (instEq_iff i i).2 rfl]
theorem and255_bd (n : Int) : 0 ≤ bits .and .i64 n 255 ∧ bits .and .i64 n 255 ≤ 255 := by
  show 0 ≤ IntKind.i64.wrap ((BitVec.ofInt 64 n &&& BitVec.ofInt 64 255).toNat : Int) ∧ IntKind.i64.wrap ((BitVec.ofInt 64 n &&& BitVec.ofInt 64 255).toNat : Int) ≤ 255
  have h : (BitVec.ofInt 64 n &&& BitVec.ofInt 64 255).toNat ≤ 255 := by
    rw [BitVec.toNat_and]
    exact Nat.and_le_right
  rw [IntWalk.i64_in _ (by omega)]
  omega
theorem wrap8_bd (n : Int) : 0 ≤ IntKind.u8.wrap n ∧ IntKind.u8.wrap n ≤ 255 := by simp only [IntKind.wrap_u8]; omega
theorem some_rem (a : Int) (h : 0 ≤ a) (n : Nat) (hn : 0 < n) : ∃ K : Nat, a.tmod (n : Int) = K ∧ K < n := by
  have h1 := Int.emod_nonneg a (b := (n : Int)) (by omega)
  have h2 := Int.emod_lt_of_pos a (b := (n : Int)) (by omega)
  refine ⟨(a % (n : Int)).toNat, ?_, by omega⟩
  rw [Int.tmod_eq_emod_of_nonneg h]
  omega
theorem slPut {cur : Array Value} {n cap : Nat} {bs : List Int} (h : SlIs cur n cap (cellsB bs)) (j : Nat) (z : Int) (hj : j < n) : SlIs (cur.setIfInBounds j (.int .u8 z)) n cap (cellsB (bs.set j z)) := by
  refine ⟨by rw [cellsB_len, List.length_set, ← cellsB_len]; exact h.len, h.le, h.most, by rw [Array.size_setIfInBounds]; exact h.size, ?_⟩
  rw [Array.toList_setIfInBounds, List.take_set, h.take]
  unfold cellsB
  rw [List.map_set]
theorem set_ok {bs : List Int} (h : bytesOk bs) (j : Nat) (z : Int) (hz : 0 ≤ z ∧ z ≤ 255) : bytesOk (bs.set j z) := by
  intro n hn
  rcases List.mem_or_eq_of_mem_set hn with h1 | h1
  · exact h n h1
  · rw [h1]; exact hz
/-- How much greater the first so many are, all together. -/
def dS (ys zs : List Int) (k : Nat) : Int := (ys.take k).sum - (zs.take k).sum
theorem dS_more {ys zs : List Int} {k : Nat} {b c : Int} (hb : ys[k]? = some b) (hc : zs[k]? = some c) : dS ys zs (k + 1) = dS ys zs k + (b - c) := by
  unfold dS
  rw [List.take_add_one, List.take_add_one, hb, hc, List.sum_append, List.sum_append]
  simp
  omega
theorem sum_bd {bs : List Int} (h : bytesOk bs) (k : Nat) : 0 ≤ (bs.take k).sum ∧ (bs.take k).sum ≤ 255 * k := by
  induction k with
  | zero => simp
  | succ k ih =>
    rw [List.take_add_one, List.sum_append]
    cases hb : bs[k]? with
    | none => simp; omega
    | some b =>
      have := h b (List.mem_of_getElem? hb)
      simp
      omega
theorem dS_bd {ys zs : List Int} (hy : bytesOk ys) (hz : bytesOk zs) (k : Nat) : -(255 * (k : Int)) ≤ dS ys zs k ∧ dS ys zs k ≤ 255 * (k : Int) := by
  have h1 := sum_bd hy k
  have h2 := sum_bd hz k
  unfold dS
  omega
/-- Which bytes are read. -/
def YIs (w0 : World) (v : Value) (wx : World) : Prop := ∃ (l : List RowT) (ys : List Int), Own w0 wx l ∧ ys.length ≤ 16 ∧ ∀ w, Own w0 w l → SrcW w v ys
set_option maxHeartbeats 16000000 in
set_option maxRecDepth 100000 in
theorem walk {w0 : World} {base : Nat} (v0 : Value) (hA : BytesAt w0 v0) (v1 : Value) (k1 : Value.okWide Try.prog w0 .any base 24 v1) (at_ : Int) (w1 : (Lit.int .i64 at_).wf = true) (wi : World) :
    Calls Try.prog 4 #[v0, v1, .int .i64 at_] w0 fun e w' => e = .returned (.bool true) ∧ Below w0.heap.size w0 w' := by
  clear wi
  obtain ⟨x, hx, rfl⟩ := open_inst k1
  clear k1
  obtain ⟨bs, hB0, hbl⟩ := hA
  have ba := bounds_i64 w1
  clear w1
  unfold maxLen at hbl
  obtain ⟨K, hK⟩ : ∃ K : Nat, K = min bs.length 16 := ⟨_, rfl⟩
  have HK : Hid ((if (16 : Int) < (bs.length : Int) then (16 : Int) else (bs.length : Int)) = (K : Int)) := Lib.hid (by split <;> omega)
  have hK1 : K ≤ bs.length := by omega
  have hK16 : K ≤ 16 := by omega
  clear hK
  have hR := Own.start w0
  go_enter Try.func4, Try.ntmps4
  go_upto_if 22 with (first
    | ((with_reducible apply q_ls hR); exact rfl; (with_reducible apply t_lenW (bs := bs) (w := w0) Try.underlying26); (apply EvC.now; exact rfl); exact hB0; (simp only [List.set_cons_succ, List.set_cons_zero]; exact rfl); clear hR; intro w hR)
    | ((with_reducible apply q_ls hR); exact rfl; (with_reducible apply t_minK); (apply EvC.now; exact rfl); (apply EvC.now; exact rfl); exact HK.out; (simp only [List.set_cons_succ, List.set_cons_zero]; exact rfl); clear hR; intro w hR)
    | ((with_reducible apply q_ls hR); exact rfl; (with_reducible apply t_cutH (h := K) tBytes hB0); (apply EvC.now; exact rfl); (apply EvC.now; exact rfl); exact rfl; exact hK1; (simp only [List.set_cons_succ, List.set_cons_zero]; exact rfl); clear hR; intro w hR)
    | ((with_reducible apply wpList_box hR); exact rfl; exact rfl; clear hR; intro g w hR; simp only [List.set_cons_succ, List.set_cons_zero])
    | ((with_reducible apply wpList_make hR zInst); exact rfl; clear hR; intro g8 w hR; simp only [List.set_cons_succ, List.set_cons_zero])
    | ((with_reducible apply q_ls hR); exact rfl; ((with_reducible first | apply t_addr (fRd _ (by decide)) | apply t_addr (fInst _ (by decide)) | apply t_addr (fRow _ (by decide)) | apply t_one tInt | apply t_one tWord | apply t_one tByte | apply t_one tBool | apply t_one tSlB | apply t_part tInst | apply t_part tRow) <;> (first | (apply EvC.gv; exact rfl; (with_reducible first | exact Imp.refl _ | (apply Imp.left; exact Imp.refl _) | (apply Imp.right; exact Imp.refl _) | (apply Imp.left; apply Imp.left; exact Imp.refl _))) | (apply EvC.now; exact rfl) | exact rfl | (with_reducible exact EvAll.nil) | (focus (repeat (first | apply EvAll.cons | exact EvAll.nil | (apply EvC.gv; exact rfl; (with_reducible first | exact Imp.refl _ | (apply Imp.left; exact Imp.refl _) | (apply Imp.right; exact Imp.refl _) | (apply Imp.left; apply Imp.left; exact Imp.refl _))) | (apply EvC.now; exact rfl))); done) | (first | apply ext_inst | apply ext_row) | (focus (repeat (first | apply List.Mem.head | apply List.Mem.tail | apply List.mem_append_right))))); (simp only [List.set_cons_succ, List.set_cons_zero]; exact rfl); clear hR; intro w hR)
    | ((with_reducible apply wpList_put hR tInst); exact rfl; exact rfl; exact rfl; (focus (repeat (first | apply List.Mem.head | apply List.Mem.tail | apply List.mem_append_right))); apply put_inst; exact rfl; simp [encI]; apply one_inst; (focus (repeat (first | apply Upd.head | apply Upd.tail))); clear hR; intro w hR))
  go_cut [7] (fun v wx => YIs w0 v wx)
  case first =>
    rcases Bool.eq_false_or_eq_true (bits .and .i64 at_ 1 == 0) with ht | ht
    · rw [ht]
      clear ht
      go_upto_region 4 with (first
    | (go_at_call 6; refine (near_fun x hx _).mono ?_; rintro e w' ⟨rfl, hb⟩; replace hR := hR.grow hb; clear hb)
    | (go_at_call 7; refine (put5_bytes (nearF x) (nearF_ok x hx) (nearF_may x) _).mono ?_; rintro e w' ⟨gB, cB, capB, rfl, hO, hB⟩; replace hR := hR.join hO; clear hO)
    | ((with_reducible apply wpList_box hR); exact rfl; exact rfl; clear hR; intro g w hR; simp only [List.set_cons_succ, List.set_cons_zero])
    | ((with_reducible apply wpList_make hR zInst); exact rfl; clear hR; intro g8 w hR; simp only [List.set_cons_succ, List.set_cons_zero])
    | ((with_reducible apply q_ls hR); exact rfl; ((with_reducible first | apply t_addr (fRd _ (by decide)) | apply t_addr (fInst _ (by decide)) | apply t_addr (fRow _ (by decide)) | apply t_one tInt | apply t_one tWord | apply t_one tByte | apply t_one tBool | apply t_one tSlB | apply t_part tInst | apply t_part tRow) <;> (first | (apply EvC.gv; exact rfl; (with_reducible first | exact Imp.refl _ | (apply Imp.left; exact Imp.refl _) | (apply Imp.right; exact Imp.refl _) | (apply Imp.left; apply Imp.left; exact Imp.refl _))) | (apply EvC.now; exact rfl) | exact rfl | (with_reducible exact EvAll.nil) | (focus (repeat (first | apply EvAll.cons | exact EvAll.nil | (apply EvC.gv; exact rfl; (with_reducible first | exact Imp.refl _ | (apply Imp.left; exact Imp.refl _) | (apply Imp.right; exact Imp.refl _) | (apply Imp.left; apply Imp.left; exact Imp.refl _))) | (apply EvC.now; exact rfl))); done) | (first | apply ext_inst | apply ext_row) | (focus (repeat (first | apply List.Mem.head | apply List.Mem.tail | apply List.mem_append_right))))); (simp only [List.set_cons_succ, List.set_cons_zero]; exact rfl); clear hR; intro w hR)
    | ((with_reducible apply wpList_put hR tInst); exact rfl; exact rfl; exact rfl; (focus (repeat (first | apply List.Mem.head | apply List.Mem.tail | apply List.mem_append_right))); apply put_inst; exact rfl; simp [encI]; apply one_inst; (focus (repeat (first | apply Upd.head | apply Upd.tail))); clear hR; intro w hR))
      have hi := nearF_ok x hx
      have mi := nearF_may x
      generalize nearF x = i at hR hB hi mi ⊢
      have mc : mayC i = true := by rw [may_same i hi]; exact mi
      have hpk := putN_ok i (fine_of i hi mi)
      obtain ⟨hp1, hp9⟩ := putN_le i hi mc
      generalize putN i = ps at hB hpk hp1 hp9
      simp only [List.cons_append, List.nil_append] at hR
      have hb1 := and255_bd (at_ / 2)
      obtain ⟨J, hJ, hJn⟩ := some_rem (bits .and .i64 (at_ / 2) 255) hb1.1 ps.length (by omega)
      have HJ := Lib.hid hJ
      have hn0 : (ps.length : Int) ≠ 0 := by omega
      obtain ⟨z, hz⟩ : ∃ z, ps[J]? = some z := ⟨_, List.getElem?_eq_getElem hJn⟩
      have HZ : Hid (cB.toList[J]? = some (.int .u8 z)) := Lib.hid (by
        have := (Part.ofIs hB).get J (.int .u8 z) (by unfold cellsB; rw [List.getElem?_map, hz]; rfl)
        rw [Nat.zero_add] at this
        rw [Array.getElem?_toList]; exact this)
      have hsz : J + 1 ≤ cB.size := by have := hB.size; have := hB.le; omega
      clear hb1 hJ hz
      repeat (first
    | ((with_reducible apply q_ls hR); exact rfl; (with_reducible apply t_remK); (apply EvC.now; exact rfl); (apply EvC.now; exact rfl); exact hn0; exact HJ.out; (simp only [List.set_cons_succ, List.set_cons_zero]; exact rfl); clear hR; intro w hR)
    | ((with_reducible apply q_ls hR); exact rfl; (with_reducible apply t_sixG (k := J) Try.underlying26 iByte); (apply EvC.now; exact rfl); (apply EvC.now; exact rfl); exact rfl; exact hJn; (simp only [List.set_cons_succ, List.set_cons_zero]; exact rfl); clear hR; intro w hR)
    | ((with_reducible apply q_ls hR); exact rfl; (with_reducible apply t_one tByte); (apply EvC.now; exact rfl); (focus (repeat (first | apply List.Mem.head | apply List.Mem.tail | apply List.mem_append_right))); exact HZ.out; (simp only [List.set_cons_succ, List.set_cons_zero]; exact rfl); clear hR; intro w hR)
    | ((with_reducible apply wpList_put1 hR tByte); exact rfl; exact rfl; exact rfl; (focus (repeat (first | apply List.Mem.head | apply List.Mem.tail | apply List.mem_append_right))); exact ⟨rfl⟩; exact hsz; exact rfl; (focus (repeat (first | apply Upd.head | apply Upd.tail))); clear hR; intro w hR)
    | ((with_reducible apply wpList_box hR); exact rfl; exact rfl; clear hR; intro g w hR; simp only [List.set_cons_succ, List.set_cons_zero])
    | ((with_reducible apply wpList_make hR zInst); exact rfl; clear hR; intro g8 w hR; simp only [List.set_cons_succ, List.set_cons_zero])
    | ((with_reducible apply q_ls hR); exact rfl; ((with_reducible first | apply t_addr (fRd _ (by decide)) | apply t_addr (fInst _ (by decide)) | apply t_addr (fRow _ (by decide)) | apply t_one tInt | apply t_one tWord | apply t_one tByte | apply t_one tBool | apply t_one tSlB | apply t_part tInst | apply t_part tRow) <;> (first | (apply EvC.gv; exact rfl; (with_reducible first | exact Imp.refl _ | (apply Imp.left; exact Imp.refl _) | (apply Imp.right; exact Imp.refl _) | (apply Imp.left; apply Imp.left; exact Imp.refl _))) | (apply EvC.now; exact rfl) | exact rfl | (with_reducible exact EvAll.nil) | (focus (repeat (first | apply EvAll.cons | exact EvAll.nil | (apply EvC.gv; exact rfl; (with_reducible first | exact Imp.refl _ | (apply Imp.left; exact Imp.refl _) | (apply Imp.right; exact Imp.refl _) | (apply Imp.left; apply Imp.left; exact Imp.refl _))) | (apply EvC.now; exact rfl))); done) | (first | apply ext_inst | apply ext_row) | (focus (repeat (first | apply List.Mem.head | apply List.Mem.tail | apply List.mem_append_right))))); (simp only [List.set_cons_succ, List.set_cons_zero]; exact rfl); clear hR; intro w hR)
    | ((with_reducible apply wpList_put hR tInst); exact rfl; exact rfl; exact rfl; (focus (repeat (first | apply List.Mem.head | apply List.Mem.tail | apply List.mem_append_right))); apply put_inst; exact rfl; simp [encI]; apply one_inst; (focus (repeat (first | apply Upd.head | apply Upd.tail))); clear hR; intro w hR)
    | go_step)
      have h8 : 0 ≤ bits .xor .u8 z (2 ^ min (IntKind.u64.wrap (bits .and .i64 (at_ / 512) 7)).toNat 8 % 256) ∧ bits .xor .u8 z (2 ^ min (IntKind.u64.wrap (bits .and .i64 (at_ / 512) 7)).toNat 8 % 256) ≤ 255 := wrap8_bd _
      generalize bits .xor .u8 z (2 ^ min (IntKind.u64.wrap (bits .and .i64 (at_ / 512) 7)).toNat 8 % 256) = Z at hR h8
      change Own w0 w [(gB, cB.setIfInBounds J (.int .u8 Z), 5), (g, encI x, 24)] at hR
      go_meet
      exact ⟨[(gB, cB.setIfInBounds J (.int .u8 Z), 5)], ps.set J Z, hR.drop (by (focus (repeat (with_reducible first | exact List.Sublist.slnil | exact List.nil_sublist _ | exact List.Sublist.refl _ | exact List.sublist_append_right _ _ | apply List.Sublist.cons_cons | apply List.Sublist.cons | apply sub_right)))), by rw [List.length_set]; omega, fun w hO => SrcW.ofRw hO (.head _) (slPut hB J Z hJn).rw (set_ok hpk J Z h8)⟩
    · rw [ht]
      clear ht
      go_wp2_with fail
      go_meet
      refine ⟨[], _, hR.drop (by (focus (repeat (with_reducible first | exact List.Sublist.slnil | exact List.nil_sublist _ | exact List.Sublist.refl _ | exact List.sublist_append_right _ _ | apply List.Sublist.cons_cons | apply List.Sublist.cons | apply sub_right)))), ?_, fun w hO => (hB0.cut 0 K (Nat.zero_le _) hK1).keep hO.below⟩
      rw [List.drop_zero, List.length_take]
      omega
  case rest =>
  clear hR hB0 hbl HK hK1 hK16 ba hx
  obtain ⟨lY, ys, hR, hl16, HY⟩ := hcut
  have hyo := (HY _ hR).ok
  have hg : ∀ w, Own w0 w lY → Calls Try.prog 8 #[u7] w fun en w' => en = .returned (getV (instM ys) ys.length) ∧ Below w.heap.size w w' := fun w hO => get_any ⟨HY w hO, by omega⟩
  rcases hi : instM ys with ⟨i, r⟩ | e
  case bad =>
    have hg2 : ∀ w, Own w0 w lY → Calls Try.prog 8 #[u7] w fun en w' => en = .returned (.tuple #[.agg (encI zeroI), .int .i64 0, .int .i64 e]) ∧ Below w.heap.size w w' := by rw [hi] at hg; exact hg
    have HG := Lib.hid hg2
    clear hg2
    have he := Ext.inst.two _ e hi
    clear hg hi
    rcases he with rfl | rfl
    all_goals
      go_upto_region 7 with (first
    | (go_at_call 8; refine (HG.out _ hR).mono ?_; rintro e w' ⟨rfl, hb⟩; replace hR := hR.grow hb; clear hb)
    | ((with_reducible apply wpList_box hR); exact rfl; exact rfl; clear hR; intro g w hR; simp only [List.set_cons_succ, List.set_cons_zero])
    | ((with_reducible apply wpList_make hR zInst); exact rfl; clear hR; intro g8 w hR; simp only [List.set_cons_succ, List.set_cons_zero])
    | ((with_reducible apply q_ls hR); exact rfl; ((with_reducible first | apply t_addr (fRd _ (by decide)) | apply t_addr (fInst _ (by decide)) | apply t_addr (fRow _ (by decide)) | apply t_one tInt | apply t_one tWord | apply t_one tByte | apply t_one tBool | apply t_one tSlB | apply t_part tInst | apply t_part tRow) <;> (first | (apply EvC.gv; exact rfl; (with_reducible first | exact Imp.refl _ | (apply Imp.left; exact Imp.refl _) | (apply Imp.right; exact Imp.refl _) | (apply Imp.left; apply Imp.left; exact Imp.refl _))) | (apply EvC.now; exact rfl) | exact rfl | (with_reducible exact EvAll.nil) | (focus (repeat (first | apply EvAll.cons | exact EvAll.nil | (apply EvC.gv; exact rfl; (with_reducible first | exact Imp.refl _ | (apply Imp.left; exact Imp.refl _) | (apply Imp.right; exact Imp.refl _) | (apply Imp.left; apply Imp.left; exact Imp.refl _))) | (apply EvC.now; exact rfl))); done) | (first | apply ext_inst | apply ext_row) | (focus (repeat (first | apply List.Mem.head | apply List.Mem.tail | apply List.mem_append_right))))); (simp only [List.set_cons_succ, List.set_cons_zero]; exact rfl); clear hR; intro w hR)
    | ((with_reducible apply wpList_put hR tInst); exact rfl; exact rfl; exact rfl; (focus (repeat (first | apply List.Mem.head | apply List.Mem.tail | apply List.mem_append_right))); apply put_inst; exact rfl; simp [encI]; apply one_inst; (focus (repeat (first | apply Upd.head | apply Upd.tail))); clear hR; intro w hR))
      refine wp_region_tame hR [0, 1, 2, 3, 4, 5, 6, 7, 8, 9, 10, 11, 12, 13, 14, 15, 16, 17, 18] rfl ?_
      repeat (refine wpT_step rfl ?_; first
    | ((with_reducible apply q_kn); exact rfl; (with_reducible apply t_call Try.call9); (first | (apply EvC.gv; exact rfl; (with_reducible first | exact Imp.refl _ | (apply Imp.left; exact Imp.refl _) | (apply Imp.right; exact Imp.refl _) | (apply Imp.left; apply Imp.left; exact Imp.refl _))) | (apply EvC.now; exact rfl) | exact rfl | (with_reducible exact EvAll.nil) | (focus (repeat (first | apply EvAll.cons | exact EvAll.nil | (apply EvC.gv; exact rfl; (with_reducible first | exact Imp.refl _ | (apply Imp.left; exact Imp.refl _) | (apply Imp.right; exact Imp.refl _) | (apply Imp.left; apply Imp.left; exact Imp.refl _))) | (apply EvC.now; exact rfl))); done) | (first | apply ext_inst | apply ext_row) | (focus (repeat (first | apply List.Mem.head | apply List.Mem.tail | apply List.mem_append_right)))); (intro hcc w hC; exact tame_below (awake7_any _) hC); (simp only [List.set_cons_succ, List.set_cons_zero]; exact rfl))
    | ((with_reducible apply q_kn); exact rfl; (with_reducible apply t_built); exact rfl; exact bInst0; (simp only [List.set_cons_succ, List.set_cons_zero]; exact rfl))
    | ((with_reducible apply q_kn); exact rfl; (first | ((with_reducible first | apply t_move | apply t_assign | apply t_addr (fRd _ (by decide)) | apply t_addr (fInst _ (by decide)) | apply t_addr (fRow _ (by decide)) | apply t_one tInt | apply t_one tWord | apply t_one tByte | apply t_one tBool | apply t_one tSlB | apply t_part tInst | apply t_part tRow) <;> (first | (apply EvC.gv; exact rfl; (with_reducible first | exact Imp.refl _ | (apply Imp.left; exact Imp.refl _) | (apply Imp.right; exact Imp.refl _) | (apply Imp.left; apply Imp.left; exact Imp.refl _))) | (apply EvC.now; exact rfl) | exact rfl | (with_reducible exact EvAll.nil) | (focus (repeat (first | apply EvAll.cons | exact EvAll.nil | (apply EvC.gv; exact rfl; (with_reducible first | exact Imp.refl _ | (apply Imp.left; exact Imp.refl _) | (apply Imp.right; exact Imp.refl _) | (apply Imp.left; apply Imp.left; exact Imp.refl _))) | (apply EvC.now; exact rfl))); done) | (first | apply ext_inst | apply ext_row) | (focus (repeat (first | apply List.Mem.head | apply List.Mem.tail | apply List.mem_append_right))))) | ((with_reducible apply t_pick); (apply EvC.now; exact rfl); (apply EvC.now; exact rfl))); (simp only [List.set_cons_succ, List.set_cons_zero]; exact rfl))
    | ((with_reducible apply q_kn); exact rfl; (with_reducible apply t_eql Try.eqGuardType24); (apply EvC.now; exact rfl); (apply EvC.now; exact rfl); exact eq_self _; (simp only [List.set_cons_succ, List.set_cons_zero]; exact rfl))
    | ((with_reducible apply wpT1_pure); exact rfl; intro K hK; go_simp; refine hK _ ?_; clear hK K; simp only [List.set_cons_succ, List.set_cons_zero])
    | ((with_reducible apply wpT1_skipL); exact rfl; (simp only [List.set_cons_succ, List.set_cons_zero]; exact rfl)))
      refine wpT_nil ?_
      clear hR; intro w hR
      go_wp2
      go_ret
      exact ⟨rfl, hR.below⟩
  case ok =>
  have hrd := inst_inv hyo hi
  have hsuf := (Ext.inst.suf ys i r hi).length_le
  obtain ⟨p, hsp, hpp, hps, hpl⟩ := hrd.split
  have hio := hrd.ok
  have hmc := hrd.may
  have hmr : mayR i = true := by rw [← may_same i hio]; exact hmc
  have hno := hrd.no
  generalize hT : i.op :: (midN i ++ immN i) = T at hsp
  have hput : putN i = aheadN i ++ T := by rw [← hT]; unfold putN aheadN; simp
  have hT0 : T.head? = some i.op := by rw [← hT]; rfl
  have hTl : 1 ≤ T.length := by rw [← hT]; simp
  have hA3 : p.length ≤ 3 := by rw [hpl]; exact aheadN_len i
  have hlen : ys.length - r.length = p.length + T.length := by rw [hsp]; simp; omega
  have hpn : (putN i).length = p.length + T.length := by rw [hput, List.length_append, hpl]
  obtain ⟨n, hn⟩ : ∃ n, n = p.length + T.length := ⟨_, rfl⟩
  rw [← hn] at hlen hpn
  have hg2 : ∀ w, Own w0 w lY → Calls Try.prog 8 #[u7] w fun en w' => en = .returned (.tuple #[.agg (encI i), .int .i64 (n : Int), .int .i64 0]) ∧ Below w.heap.size w w' := by
    rw [hi] at hg
    unfold getV at hg
    simp only [hlen] at hg
    exact hg
  have HG := Lib.hid hg2
  -- what is asked of the bytes, place by place
  have hyl : n ≤ ys.length := by omega
  obtain ⟨ya, ycap, rfl, hycap, _⟩ : ∃ a cap, u7 = .slice (some a) ys.length cap ∧ ys.length ≤ cap ∧ True := by
    rcases (HY _ hR).way with ⟨_, h⟩ | ⟨a, cap, h1, h2, _⟩
    · have : ys.length = 0 := by rw [h]; rfl
      omega
    · exact ⟨a, cap, h1, h2, trivial⟩
  have hyc : ∀ w, Own w0 w lY → ∀ j u, ys[j]? = some u → w.cell? (ya.add j) = some (.int .u8 u) := by
    intro w hO j u hu
    rcases (HY w hO).way with ⟨h, _⟩ | ⟨a, cap, h1, _, h3⟩
    · exact nomatch h
    · injection h1 with h1 _ _
      obtain rfl := Option.some.inj h1
      exact h3 j u hu
  have hpre : ∀ k, k < p.length → ∃ b, ys[k]? = some b ∧ prefR b = true := by
    intro k hk
    refine ⟨p[k], ?_, ?_⟩
    · rw [hsp, List.append_assoc, List.getElem?_append_left hk, List.getElem?_eq_getElem hk]
    · rw [← prefB_R]; exact hpp _ (List.getElem_mem hk)
  have hat : ys[p.length]? = some i.op := by
    rw [hsp, List.append_assoc, List.getElem?_append_right (Nat.le_refl _), Nat.sub_self, List.getElem?_append_left (by omega), ← List.head?_eq_getElem?]
    exact hT0
  have hcutY : ((ys.take n).drop p.length) = T := by
    rw [hn, hsp, List.take_append_of_le_length (by simp), List.take_of_length_le (by simp), List.drop_left]
  have hcutP : ((putN i).take (putN i).length).drop p.length = T := by rw [List.take_length, hput, hpl, List.drop_left]
  rw [prefB_R] at hno
  have HYC := Lib.hid hyc
  have HPRE := Lib.hid hpre
  have HAT := Lib.hid hat
  have HCY := Lib.hid hcutY
  have HCP := Lib.hid hcutP
  have HNO := Lib.hid hno
  have HPN := Lib.hid hpn
  have HPUT := Lib.hid hput
  have HPS := Lib.hid hps
  have HPL := Lib.hid hpl
  have HSP := Lib.hid hsp
  clear hyc hpre hat hcutY hcutP hno hpn hput hps hpl hsp hlen hsuf hpp hi hg hg2 hrd hT0
  have hmt : ∀ w, Calls Try.prog 10 #[.agg (encI i)] w fun e w' => e = .returned (.bool true) ∧ Below w.heap.size w w' := fun w => by have := mayR_any i hio w; rw [hmr] at this; exact this
  have HMT := Lib.hid hmt
  have hn1 : 1 ≤ n := by omega
  have hAn : p.length < n := by omega
  clear hn hTl hmt
  generalize hA : p.length = A at *
  generalize hM : ys.length = m at *
  have HA := Lib.hid hA
  have HM := Lib.hid hM
  clear hA hM
  go_upto_region 8 with (first
    | (go_at_call 8; refine (HG.out _ hR).mono ?_; rintro e w' ⟨rfl, hb⟩; replace hR := hR.grow hb; clear hb)
    | ((with_reducible apply wpList_box hR); exact rfl; exact rfl; clear hR; intro g w hR; simp only [List.set_cons_succ, List.set_cons_zero])
    | ((with_reducible apply wpList_make hR zInst); exact rfl; clear hR; intro g8 w hR; simp only [List.set_cons_succ, List.set_cons_zero])
    | ((with_reducible apply q_ls hR); exact rfl; ((with_reducible first | apply t_addr (fRd _ (by decide)) | apply t_addr (fInst _ (by decide)) | apply t_addr (fRow _ (by decide)) | apply t_one tInt | apply t_one tWord | apply t_one tByte | apply t_one tBool | apply t_one tSlB | apply t_part tInst | apply t_part tRow) <;> (first | (apply EvC.gv; exact rfl; (with_reducible first | exact Imp.refl _ | (apply Imp.left; exact Imp.refl _) | (apply Imp.right; exact Imp.refl _) | (apply Imp.left; apply Imp.left; exact Imp.refl _))) | (apply EvC.now; exact rfl) | exact rfl | (with_reducible exact EvAll.nil) | (focus (repeat (first | apply EvAll.cons | exact EvAll.nil | (apply EvC.gv; exact rfl; (with_reducible first | exact Imp.refl _ | (apply Imp.left; exact Imp.refl _) | (apply Imp.right; exact Imp.refl _) | (apply Imp.left; apply Imp.left; exact Imp.refl _))) | (apply EvC.now; exact rfl))); done) | (first | apply ext_inst | apply ext_row) | (focus (repeat (first | apply List.Mem.head | apply List.Mem.tail | apply List.mem_append_right))))); (simp only [List.set_cons_succ, List.set_cons_zero]; exact rfl); clear hR; intro w hR)
    | ((with_reducible apply wpList_put hR tInst); exact rfl; exact rfl; exact rfl; (focus (repeat (first | apply List.Mem.head | apply List.Mem.tail | apply List.mem_append_right))); apply put_inst; exact rfl; simp [encI]; apply one_inst; (focus (repeat (first | apply Upd.head | apply Upd.tail))); clear hR; intro w hR))
  have hc1 : cmpB .lss (n : Int) 1 = some false := by simp only [cmpB]; congr 1; simp; omega
  have hc2 : cmpB .gtr (n : Int) (m : Int) = some false := by simp only [cmpB]; congr 1; simp; omega
  have HC1 := Lib.hid hc1
  have HC2 := Lib.hid hc2
  clear hc1 hc2
  refine wp_region_tame hR [0, 1, 2, 3, 4, 5, 6, 7, 8, 9, 10, 11, 12] rfl ?_
  repeat (refine wpT_step rfl ?_; first
    | ((with_reducible apply q_kn); exact rfl; (with_reducible apply t_cmp); (apply EvC.now; exact rfl); (apply EvC.now; exact rfl); (with_reducible first | exact HC1.out | exact HC2.out); (simp only [List.set_cons_succ, List.set_cons_zero]; exact rfl))
    | ((with_reducible apply q_kn); exact rfl; (with_reducible apply t_len Try.underlying26); (apply EvC.now; exact rfl); (simp only [List.set_cons_succ, List.set_cons_zero]; exact rfl))
    | ((with_reducible apply q_kn); exact rfl; (with_reducible apply t_call Try.call10); (first | (apply EvC.gv; exact rfl; (with_reducible first | exact Imp.refl _ | (apply Imp.left; exact Imp.refl _) | (apply Imp.right; exact Imp.refl _) | (apply Imp.left; apply Imp.left; exact Imp.refl _))) | (apply EvC.now; exact rfl) | exact rfl | (with_reducible exact EvAll.nil) | (focus (repeat (first | apply EvAll.cons | exact EvAll.nil | (apply EvC.gv; exact rfl; (with_reducible first | exact Imp.refl _ | (apply Imp.left; exact Imp.refl _) | (apply Imp.right; exact Imp.refl _) | (apply Imp.left; apply Imp.left; exact Imp.refl _))) | (apply EvC.now; exact rfl))); done) | (first | apply ext_inst | apply ext_row) | (focus (repeat (first | apply List.Mem.head | apply List.Mem.tail | apply List.mem_append_right)))); (intro hcc w hC; exact tame_below (HMT.out _) hC); (simp only [List.set_cons_succ, List.set_cons_zero]; exact rfl))
    | ((with_reducible apply q_kn); exact rfl; (first | ((with_reducible first | apply t_move | apply t_assign | apply t_addr (fRd _ (by decide)) | apply t_addr (fInst _ (by decide)) | apply t_addr (fRow _ (by decide)) | apply t_one tInt | apply t_one tWord | apply t_one tByte | apply t_one tBool | apply t_one tSlB | apply t_part tInst | apply t_part tRow) <;> (first | (apply EvC.gv; exact rfl; (with_reducible first | exact Imp.refl _ | (apply Imp.left; exact Imp.refl _) | (apply Imp.right; exact Imp.refl _) | (apply Imp.left; apply Imp.left; exact Imp.refl _))) | (apply EvC.now; exact rfl) | exact rfl | (with_reducible exact EvAll.nil) | (focus (repeat (first | apply EvAll.cons | exact EvAll.nil | (apply EvC.gv; exact rfl; (with_reducible first | exact Imp.refl _ | (apply Imp.left; exact Imp.refl _) | (apply Imp.right; exact Imp.refl _) | (apply Imp.left; apply Imp.left; exact Imp.refl _))) | (apply EvC.now; exact rfl))); done) | (first | apply ext_inst | apply ext_row) | (focus (repeat (first | apply List.Mem.head | apply List.Mem.tail | apply List.mem_append_right))))) | ((with_reducible apply t_pick); (apply EvC.now; exact rfl); (apply EvC.now; exact rfl))); (simp only [List.set_cons_succ, List.set_cons_zero]; exact rfl))
    | ((with_reducible apply wpT1_pure); exact rfl; intro K hK; go_simp; refine hK _ ?_; clear hK K; simp only [List.set_cons_succ, List.set_cons_zero]))
  refine wpT_nil ?_
  clear hR; intro w hR
  go_upto_region 11 with (first
    | (go_at_call 7; refine (put5_bytes i hio hmr _).mono ?_; rintro e w' ⟨gP, cP, capP, rfl, hO, hP⟩; replace hR := hR.join hO; clear hO)
    | ((with_reducible apply wpList_box hR); exact rfl; exact rfl; clear hR; intro g w hR; simp only [List.set_cons_succ, List.set_cons_zero])
    | ((with_reducible apply wpList_make hR zInst); exact rfl; clear hR; intro g8 w hR; simp only [List.set_cons_succ, List.set_cons_zero])
    | ((with_reducible apply q_ls hR); exact rfl; ((with_reducible first | apply t_addr (fRd _ (by decide)) | apply t_addr (fInst _ (by decide)) | apply t_addr (fRow _ (by decide)) | apply t_one tInt | apply t_one tWord | apply t_one tByte | apply t_one tBool | apply t_one tSlB | apply t_part tInst | apply t_part tRow) <;> (first | (apply EvC.gv; exact rfl; (with_reducible first | exact Imp.refl _ | (apply Imp.left; exact Imp.refl _) | (apply Imp.right; exact Imp.refl _) | (apply Imp.left; apply Imp.left; exact Imp.refl _))) | (apply EvC.now; exact rfl) | exact rfl | (with_reducible exact EvAll.nil) | (focus (repeat (first | apply EvAll.cons | exact EvAll.nil | (apply EvC.gv; exact rfl; (with_reducible first | exact Imp.refl _ | (apply Imp.left; exact Imp.refl _) | (apply Imp.right; exact Imp.refl _) | (apply Imp.left; apply Imp.left; exact Imp.refl _))) | (apply EvC.now; exact rfl))); done) | (first | apply ext_inst | apply ext_row) | (focus (repeat (first | apply List.Mem.head | apply List.Mem.tail | apply List.mem_append_right))))); (simp only [List.set_cons_succ, List.set_cons_zero]; exact rfl); clear hR; intro w hR)
    | ((with_reducible apply wpList_put hR tInst); exact rfl; exact rfl; exact rfl; (focus (repeat (first | apply List.Mem.head | apply List.Mem.tail | apply List.mem_append_right))); apply put_inst; exact rfl; simp [encI]; apply one_inst; (focus (repeat (first | apply Upd.head | apply Upd.tail))); clear hR; intro w hR))
  simp only [List.cons_append, List.nil_append] at hR
  rw [HPN.out] at hP ⊢
  have hpk := putN_ok i (fine_of i hio hmr)
  have hsp2 : ∀ w, Own w0 w ((gP, cP, 5) :: (g8, encI i, 24) :: lY) → SrcW w (.slice (some ⟨gP, 0, none⟩) n capP) (putN i) := fun w hO => SrcW.ofRw hO (.head _) hP.rw hpk
  have hsy2 : ∀ w, Own w0 w ((gP, cP, 5) :: (g8, encI i, 24) :: lY) → SrcW w (.slice (some ya) m ycap) ys := fun w hO => HY w hO.tail.tail
  have hcy2 : ∀ (k : Nat) (b : Int), ys[k]? = some b → ∀ w, Own w0 w ((gP, cP, 5) :: (g8, encI i, 24) :: lY) → w.cell? (ya.add ((k : Int).toNat * 1)) = some (.int .u8 b) := by
    intro k b hb w hO
    rw [Int.toNat_natCast, Nat.mul_one]
    exact HYC.out w hO.tail.tail k b hb
  have hcp2 : ∀ (k : Nat) (b : Int), (putN i)[k]? = some b → ∀ w, Own w0 w ((gP, cP, 5) :: (g8, encI i, 24) :: lY) → w.cell? ((⟨gP, 0, none⟩ : Addr).add ((k : Int).toNat * 1)) = some (.int .u8 b) := by
    intro k b hb w hO
    rw [Int.toNat_natCast, Nat.mul_one]
    rcases (hsp2 w hO).way with ⟨h, _⟩ | ⟨a, cap, h1, _, h3⟩
    · exact nomatch h
    · injection h1 with h1 _ _
      obtain rfl := Option.some.inj h1
      exact h3 k b hb
  have HSP2 := Lib.hid hsp2
  have HSY2 := Lib.hid hsy2
  have HCY2 := Lib.hid hcy2
  have HCP2 := Lib.hid hcp2
  have HPK := Lib.hid hpk
  have HYO := Lib.hid hyo
  clear hsp2 hsy2 hcy2 hcp2 hpk hyo HY HYC
  have hAm : A < m := by omega
  go_wp2_with fail
  go_loopg [12] A (fun q v wr => ∃ k : Nat, q = A - k ∧ k ≤ A ∧ v = .int .i64 (k : Int) ∧ Own w0 wr ((gP, cP, 5) :: (g8, encI i, 24) :: lY))
  case atStart => exact ⟨0, by omega, Nat.zero_le _, rfl, hR⟩
  case round =>
    clear hR
    obtain ⟨k, rfl, hk, rfl, hR⟩ := hrel
    by_cases hlt : k < A
    · obtain ⟨b, hb, hpb⟩ := HPRE.out k hlt
      have HBK := Lib.hid (HCY2.out k b hb)
      have HPB := Lib.hid hpb
      clear hb hpb
      go_upto_region 12 with fail
      refine wp_region_tame hR [0, 1, 2, 3, 4, 5, 6, 7, 8, 9, 10, 11, 12, 13, 14, 15, 16, 17, 18, 19, 20, 21, 22, 23, 24, 25, 26, 27, 28, 29, 30, 31, 32, 33, 34, 35, 36, 37, 38, 39, 40, 41, 42, 43, 44, 45, 46, 47, 48, 49, 50, 51] rfl ?_
      repeat (refine wpT_step rfl ?_; first
    | ((first | (with_reducible apply q_pl) | ((with_reducible apply q_gd); (first | (apply GdBy.gt; exact rfl; exact rfl) | (apply GdBy.gf; exact rfl; exact rfl) | (apply GdBy.t; exact rfl; exact rfl) | (apply GdBy.f; exact rfl; exact rfl)))); (first | ((with_reducible first | apply t_move | apply t_assign | apply t_and | apply t_or | apply t_cmp | apply t_not | apply t_addr (fRd _ (by decide)) | apply t_addr (fInst _ (by decide)) | apply t_addr (fRow _ (by decide)) | apply t_one tInt | apply t_one tWord | apply t_one tByte | apply t_one tBool | apply t_one tSlB | apply t_part tInst | apply t_part tRow) <;> (first | (apply EvC.gv; exact rfl; (with_reducible first | exact Imp.refl _ | (apply Imp.left; exact Imp.refl _) | (apply Imp.right; exact Imp.refl _) | (apply Imp.left; apply Imp.left; exact Imp.refl _))) | (apply EvC.now; exact rfl) | exact rfl | (with_reducible exact EvAll.nil) | (focus (repeat (first | apply EvAll.cons | exact EvAll.nil | (apply EvC.gv; exact rfl; (with_reducible first | exact Imp.refl _ | (apply Imp.left; exact Imp.refl _) | (apply Imp.right; exact Imp.refl _) | (apply Imp.left; apply Imp.left; exact Imp.refl _))) | (apply EvC.now; exact rfl))); done) | (first | apply ext_inst | apply ext_row) | (focus (repeat (first | apply List.Mem.head | apply List.Mem.tail | apply List.mem_append_right)))))); (simp only [List.set_cons_succ, List.set_cons_zero]; exact rfl))
    | ((first | (with_reducible apply q_pl) | ((with_reducible apply q_gd); (first | (apply GdBy.gt; exact rfl; exact rfl) | (apply GdBy.gf; exact rfl; exact rfl) | (apply GdBy.t; exact rfl; exact rfl) | (apply GdBy.f; exact rfl; exact rfl)))); (with_reducible apply t_six Try.underlying26 iByte); (first | (apply EvC.gv; exact rfl; (with_reducible first | exact Imp.refl _ | (apply Imp.left; exact Imp.refl _) | (apply Imp.right; exact Imp.refl _) | (apply Imp.left; apply Imp.left; exact Imp.refl _))) | (apply EvC.now; exact rfl)); (first | (apply EvC.gv; exact rfl; (with_reducible first | exact Imp.refl _ | (apply Imp.left; exact Imp.refl _) | (apply Imp.right; exact Imp.refl _) | (apply Imp.left; apply Imp.left; exact Imp.refl _))) | (apply EvC.now; exact rfl)); (constructor <;> omega); (simp only [List.set_cons_succ, List.set_cons_zero]; exact rfl))
    | ((first | (with_reducible apply q_pl) | ((with_reducible apply q_gd); (first | (apply GdBy.gt; exact rfl; exact rfl) | (apply GdBy.gf; exact rfl; exact rfl) | (apply GdBy.t; exact rfl; exact rfl) | (apply GdBy.f; exact rfl; exact rfl)))); (with_reducible apply t_cellW tByte); (first | (apply EvC.gv; exact rfl; (with_reducible first | exact Imp.refl _ | (apply Imp.left; exact Imp.refl _) | (apply Imp.right; exact Imp.refl _) | (apply Imp.left; apply Imp.left; exact Imp.refl _))) | (apply EvC.now; exact rfl)); (exact HBK.out); (simp only [List.set_cons_succ, List.set_cons_zero]; exact rfl)))
      refine wpT_nil ?_
      clear hR; intro w hR
      go_upto_if 134 with fail
      refine wp_cond_at (nm := decide ((k : Int) < (n : Int)) && prefR b) rfl rfl (fun h => ?_) (fun h => ?_)
      · clear h
        go_wp2_with fail
        go_roundg (A - (k + 1))
        case measure => omega
        case rel => exact ⟨k + 1, rfl, by omega, by go_num, hR⟩
      · exfalso
        rw [HPB.out, show decide ((k : Int) < (n : Int)) = true from by simp; omega] at h
        exact nomatch h
    · have hkA : k = A := by omega
      subst hkA
      have HBK := Lib.hid (HCY2.out k i.op HAT.out)
      go_upto_region 12 with fail
      refine wp_region_tame hR [0, 1, 2, 3, 4, 5, 6, 7, 8, 9, 10, 11, 12, 13, 14, 15, 16, 17, 18, 19, 20, 21, 22, 23, 24, 25, 26, 27, 28, 29, 30, 31, 32, 33, 34, 35, 36, 37, 38, 39, 40, 41, 42, 43, 44, 45, 46, 47, 48, 49, 50, 51] rfl ?_
      repeat (refine wpT_step rfl ?_; first
    | ((first | (with_reducible apply q_pl) | ((with_reducible apply q_gd); (first | (apply GdBy.gt; exact rfl; exact rfl) | (apply GdBy.gf; exact rfl; exact rfl) | (apply GdBy.t; exact rfl; exact rfl) | (apply GdBy.f; exact rfl; exact rfl)))); (first | ((with_reducible first | apply t_move | apply t_assign | apply t_and | apply t_or | apply t_cmp | apply t_not | apply t_addr (fRd _ (by decide)) | apply t_addr (fInst _ (by decide)) | apply t_addr (fRow _ (by decide)) | apply t_one tInt | apply t_one tWord | apply t_one tByte | apply t_one tBool | apply t_one tSlB | apply t_part tInst | apply t_part tRow) <;> (first | (apply EvC.gv; exact rfl; (with_reducible first | exact Imp.refl _ | (apply Imp.left; exact Imp.refl _) | (apply Imp.right; exact Imp.refl _) | (apply Imp.left; apply Imp.left; exact Imp.refl _))) | (apply EvC.now; exact rfl) | exact rfl | (with_reducible exact EvAll.nil) | (focus (repeat (first | apply EvAll.cons | exact EvAll.nil | (apply EvC.gv; exact rfl; (with_reducible first | exact Imp.refl _ | (apply Imp.left; exact Imp.refl _) | (apply Imp.right; exact Imp.refl _) | (apply Imp.left; apply Imp.left; exact Imp.refl _))) | (apply EvC.now; exact rfl))); done) | (first | apply ext_inst | apply ext_row) | (focus (repeat (first | apply List.Mem.head | apply List.Mem.tail | apply List.mem_append_right)))))); (simp only [List.set_cons_succ, List.set_cons_zero]; exact rfl))
    | ((first | (with_reducible apply q_pl) | ((with_reducible apply q_gd); (first | (apply GdBy.gt; exact rfl; exact rfl) | (apply GdBy.gf; exact rfl; exact rfl) | (apply GdBy.t; exact rfl; exact rfl) | (apply GdBy.f; exact rfl; exact rfl)))); (with_reducible apply t_six Try.underlying26 iByte); (first | (apply EvC.gv; exact rfl; (with_reducible first | exact Imp.refl _ | (apply Imp.left; exact Imp.refl _) | (apply Imp.right; exact Imp.refl _) | (apply Imp.left; apply Imp.left; exact Imp.refl _))) | (apply EvC.now; exact rfl)); (first | (apply EvC.gv; exact rfl; (with_reducible first | exact Imp.refl _ | (apply Imp.left; exact Imp.refl _) | (apply Imp.right; exact Imp.refl _) | (apply Imp.left; apply Imp.left; exact Imp.refl _))) | (apply EvC.now; exact rfl)); (constructor <;> omega); (simp only [List.set_cons_succ, List.set_cons_zero]; exact rfl))
    | ((first | (with_reducible apply q_pl) | ((with_reducible apply q_gd); (first | (apply GdBy.gt; exact rfl; exact rfl) | (apply GdBy.gf; exact rfl; exact rfl) | (apply GdBy.t; exact rfl; exact rfl) | (apply GdBy.f; exact rfl; exact rfl)))); (with_reducible apply t_cellW tByte); (first | (apply EvC.gv; exact rfl; (with_reducible first | exact Imp.refl _ | (apply Imp.left; exact Imp.refl _) | (apply Imp.right; exact Imp.refl _) | (apply Imp.left; apply Imp.left; exact Imp.refl _))) | (apply EvC.now; exact rfl)); (exact HBK.out); (simp only [List.set_cons_succ, List.set_cons_zero]; exact rfl)))
      refine wpT_nil ?_
      clear hR; intro w hR
      go_upto_if 134 with fail
      refine wp_cond_at (nm := decide ((k : Int) < (n : Int)) && prefR i.op) rfl rfl (fun h => ?_) (fun h => ?_)
      · exfalso
        rw [HNO.out, Bool.and_false] at h
        exact nomatch h
      clear h hlt
      go_wp2_with fail
      go_loopg [13, 14] k (fun q s v wr => ∃ j : Nat, q = k - j ∧ j ≤ k ∧ v = .int .i64 (j : Int) ∧ s = .int .i64 (dS ys (putN i) j) ∧ Own w0 wr ((gP, cP, 5) :: (g8, encI i, 24) :: lY))
      case atStart => exact ⟨0, by omega, Nat.zero_le _, rfl, rfl, hR⟩
      case round =>
        clear hR
        obtain ⟨j, rfl, hj, rfl, rfl, hR⟩ := hrel
        by_cases hjk : j < k
        · obtain ⟨b, hb⟩ : ∃ b, ys[j]? = some b := ⟨_, List.getElem?_eq_getElem (by have := HM.out; omega)⟩
          obtain ⟨c, hc⟩ : ∃ c, (putN i)[j]? = some c := ⟨_, List.getElem?_eq_getElem (by have := HPN.out; omega)⟩
          have HYB := Lib.hid (HCY2.out j b hb)
          have HPC := Lib.hid (HCP2.out j c hc)
          obtain ⟨b0, b1⟩ := HYO.out b (List.mem_of_getElem? hb)
          obtain ⟨c0, c1⟩ := HPK.out c (List.mem_of_getElem? hc)
          obtain ⟨s0, s1⟩ := dS_bd HYO.out HPK.out j
          have HD := Lib.hid (dS_more hb hc)
          clear hb hc
          generalize dS ys (putN i) j = s at s0 s1 HD
          have s2 : -765 ≤ s := by omega
          have s3 : s ≤ 765 := by omega
          have hc1 : cmpB .lss (j : Int) (k : Int) = some true := by simp only [cmpB]; congr 1; simp; omega
          have hc2 : cmpB .lss (j : Int) (n : Int) = some true := by simp only [cmpB]; congr 1; simp; omega
          have HC3 := Lib.hid hc1
          have HC4 := Lib.hid hc2
          clear hc1 hc2 s0 s1
          go_upto_region 16 with fail
          refine wp_region_tame hR [0, 1, 2, 3, 4, 5, 6, 7, 8] rfl ?_
          repeat (refine wpT_step rfl ?_; first
    | ((with_reducible apply q_kn); exact rfl; (with_reducible apply t_cmp); (apply EvC.now; exact rfl); (apply EvC.now; exact rfl); (with_reducible first | exact HC3.out | exact HC4.out); (simp only [List.set_cons_succ, List.set_cons_zero]; exact rfl))
    | ((with_reducible apply q_kn); exact rfl; (with_reducible apply t_len Try.underlying26); (apply EvC.now; exact rfl); (simp only [List.set_cons_succ, List.set_cons_zero]; exact rfl))
    | ((with_reducible apply q_kn); exact rfl; (first | ((with_reducible first | apply t_move | apply t_assign | apply t_addr (fRd _ (by decide)) | apply t_addr (fInst _ (by decide)) | apply t_addr (fRow _ (by decide)) | apply t_one tInt | apply t_one tWord | apply t_one tByte | apply t_one tBool | apply t_one tSlB | apply t_part tInst | apply t_part tRow) <;> (first | (apply EvC.gv; exact rfl; (with_reducible first | exact Imp.refl _ | (apply Imp.left; exact Imp.refl _) | (apply Imp.right; exact Imp.refl _) | (apply Imp.left; apply Imp.left; exact Imp.refl _))) | (apply EvC.now; exact rfl) | exact rfl | (with_reducible exact EvAll.nil) | (focus (repeat (first | apply EvAll.cons | exact EvAll.nil | (apply EvC.gv; exact rfl; (with_reducible first | exact Imp.refl _ | (apply Imp.left; exact Imp.refl _) | (apply Imp.right; exact Imp.refl _) | (apply Imp.left; apply Imp.left; exact Imp.refl _))) | (apply EvC.now; exact rfl))); done) | (first | apply ext_inst | apply ext_row) | (focus (repeat (first | apply List.Mem.head | apply List.Mem.tail | apply List.mem_append_right))))) | ((with_reducible apply t_pick); (apply EvC.now; exact rfl); (apply EvC.now; exact rfl))); (simp only [List.set_cons_succ, List.set_cons_zero]; exact rfl)))
          refine wpT_nil ?_
          clear hR; intro w hR
          go_upto_region 18 with fail
          refine wp_region_rows hR [0, 1, 2, 3, 4, 5, 6, 7, 8, 9, 10, 11, 12, 13] 0 (by kernel_rfl) (by kernel_rfl) (by kernel_rfl) rfl ?_
          clear hR; intro hR
          repeat (refine wpT_step rfl ?_; first
    | ((first | (with_reducible apply q_pl) | ((with_reducible apply q_gd); (first | (apply GdBy.gt; exact rfl; exact rfl) | (apply GdBy.gf; exact rfl; exact rfl) | (apply GdBy.t; exact rfl; exact rfl) | (apply GdBy.f; exact rfl; exact rfl)))); (first | ((with_reducible first | apply t_move | apply t_assign | apply t_and | apply t_or | apply t_cmp | apply t_not | apply t_addr (fRd _ (by decide)) | apply t_addr (fInst _ (by decide)) | apply t_addr (fRow _ (by decide)) | apply t_one tInt | apply t_one tWord | apply t_one tByte | apply t_one tBool | apply t_one tSlB | apply t_part tInst | apply t_part tRow) <;> (first | (apply EvC.gv; exact rfl; (with_reducible first | exact Imp.refl _ | (apply Imp.left; exact Imp.refl _) | (apply Imp.right; exact Imp.refl _) | (apply Imp.left; apply Imp.left; exact Imp.refl _))) | (apply EvC.now; exact rfl) | exact rfl | (with_reducible exact EvAll.nil) | (focus (repeat (first | apply EvAll.cons | exact EvAll.nil | (apply EvC.gv; exact rfl; (with_reducible first | exact Imp.refl _ | (apply Imp.left; exact Imp.refl _) | (apply Imp.right; exact Imp.refl _) | (apply Imp.left; apply Imp.left; exact Imp.refl _))) | (apply EvC.now; exact rfl))); done) | (first | apply ext_inst | apply ext_row) | (focus (repeat (first | apply List.Mem.head | apply List.Mem.tail | apply List.mem_append_right)))))); (simp only [List.set_cons_succ, List.set_cons_zero]; exact rfl))
    | ((first | (with_reducible apply q_pl) | ((with_reducible apply q_gd); (first | (apply GdBy.gt; exact rfl; exact rfl) | (apply GdBy.gf; exact rfl; exact rfl) | (apply GdBy.t; exact rfl; exact rfl) | (apply GdBy.f; exact rfl; exact rfl)))); (with_reducible apply t_six Try.underlying26 iByte); (first | (apply EvC.gv; exact rfl; (with_reducible first | exact Imp.refl _ | (apply Imp.left; exact Imp.refl _) | (apply Imp.right; exact Imp.refl _) | (apply Imp.left; apply Imp.left; exact Imp.refl _))) | (apply EvC.now; exact rfl)); (first | (apply EvC.gv; exact rfl; (with_reducible first | exact Imp.refl _ | (apply Imp.left; exact Imp.refl _) | (apply Imp.right; exact Imp.refl _) | (apply Imp.left; apply Imp.left; exact Imp.refl _))) | (apply EvC.now; exact rfl)); (constructor <;> omega); (simp only [List.set_cons_succ, List.set_cons_zero]; exact rfl))
    | ((first | (with_reducible apply q_pl) | ((with_reducible apply q_gd); (first | (apply GdBy.gt; exact rfl; exact rfl) | (apply GdBy.gf; exact rfl; exact rfl) | (apply GdBy.t; exact rfl; exact rfl) | (apply GdBy.f; exact rfl; exact rfl)))); (with_reducible apply t_cellW tByte); (first | (apply EvC.gv; exact rfl; (with_reducible first | exact Imp.refl _ | (apply Imp.left; exact Imp.refl _) | (apply Imp.right; exact Imp.refl _) | (apply Imp.left; apply Imp.left; exact Imp.refl _))) | (apply EvC.now; exact rfl)); ((with_reducible first | exact HYB.out | exact HPC.out)); (simp only [List.set_cons_succ, List.set_cons_zero]; exact rfl))
    | ((with_reducible apply wpT1_pure); exact rfl; intro K hK; go_simp; refine hK _ ?_; clear hK K; simp only [List.set_cons_succ, List.set_cons_zero]))
          refine wpT_nil ?_
          refine wpG_end hR (by kernel_rfl) ?_
          clear hR; intro w hR
          go_wp2_with fail
          go_roundg (k - (j + 1))
          case measure => omega
          case rel => exact ⟨j + 1, rfl, by omega, by go_num, by rw [HD.out, IntWalk.i64_in b (by omega), IntWalk.i64_in c (by omega), IntWalk.i64_in (b - c) (by omega), IntWalk.i64_in (s + (b - c)) (by omega)], hR⟩
        · have hje : j = k := by omega
          subst hje
          have hd0 : dS ys (putN i) j = 0 := by
            unfold dS
            rw [HSP.out, HPUT.out, List.append_assoc, List.take_append_of_le_length (by have := HA.out; omega), List.take_of_length_le (by have := HA.out; omega), List.take_append_of_le_length (by have := HA.out; have := HPL.out; omega), List.take_of_length_le (by have := HA.out; have := HPL.out; omega), HPS.out]
            omega
          rw [hd0]
          clear hd0 hjk
          have hc1 : cmpB .lss (j : Int) (j : Int) = some false := by simp [cmpB]
          have hc2 : cmpB .leq (j : Int) 3 = some true := by simp only [cmpB]; congr 1; simp; omega
          have hc3 : cmpB .eql (n : Int) (n : Int) = some true := by simp [cmpB]
          have HC3 := Lib.hid hc1
          have HC4 := Lib.hid hc2
          have HC5 := Lib.hid hc3
          clear hc1 hc2 hc3
          have hjp : j ≤ (putN i).length := by have := HPN.out; omega
          have hny : n ≤ ys.length := by have := HM.out; omega
          have ht1 : ∀ w, Own w0 w ((gP, cP, 5) :: (g8, encI i, 24) :: lY) → SrcW w (cutV (.slice (some ⟨gP, 0, none⟩) n capP) j (putN i).length) T := fun w hO => by
            have := (HSP2.out w hO).cut j (putN i).length hjp (Nat.le_refl _)
            rw [HCP.out] at this
            exact this
          have ht2 : ∀ w, Own w0 w ((gP, cP, 5) :: (g8, encI i, 24) :: lY) → SrcW w (cutV (.slice (some ya) m ycap) j n) T := fun w hO => by
            have := (HSY2.out w hO).cut j n (by omega) hny
            rw [HCY.out] at this
            exact this
          have HT1 := Lib.hid ht1
          have HT2 := Lib.hid ht2
          have HS1 := Lib.hid (HSP2.out _ hR)
          have HS2 := Lib.hid (HSY2.out _ hR)
          have hjn : j ≤ n := by omega
          clear ht1 ht2
          go_upto_region 16 with fail
          refine wp_region_tame hR [0, 1, 2, 3, 4, 5, 6, 7, 8] rfl ?_
          repeat (refine wpT_step rfl ?_; first
    | ((with_reducible apply q_kn); exact rfl; (with_reducible apply t_cmp); (apply EvC.now; exact rfl); (apply EvC.now; exact rfl); (with_reducible exact HC3.out); (simp only [List.set_cons_succ, List.set_cons_zero]; exact rfl))
    | ((with_reducible apply q_kn); exact rfl; (first | ((with_reducible first | apply t_move | apply t_assign | apply t_addr (fRd _ (by decide)) | apply t_addr (fInst _ (by decide)) | apply t_addr (fRow _ (by decide)) | apply t_one tInt | apply t_one tWord | apply t_one tByte | apply t_one tBool | apply t_one tSlB | apply t_part tInst | apply t_part tRow) <;> (first | (apply EvC.gv; exact rfl; (with_reducible first | exact Imp.refl _ | (apply Imp.left; exact Imp.refl _) | (apply Imp.right; exact Imp.refl _) | (apply Imp.left; apply Imp.left; exact Imp.refl _))) | (apply EvC.now; exact rfl) | exact rfl | (with_reducible exact EvAll.nil) | (focus (repeat (first | apply EvAll.cons | exact EvAll.nil | (apply EvC.gv; exact rfl; (with_reducible first | exact Imp.refl _ | (apply Imp.left; exact Imp.refl _) | (apply Imp.right; exact Imp.refl _) | (apply Imp.left; apply Imp.left; exact Imp.refl _))) | (apply EvC.now; exact rfl))); done) | (first | apply ext_inst | apply ext_row) | (focus (repeat (first | apply List.Mem.head | apply List.Mem.tail | apply List.mem_append_right))))) | ((with_reducible apply t_pick); (apply EvC.now; exact rfl); (apply EvC.now; exact rfl))); (simp only [List.set_cons_succ, List.set_cons_zero]; exact rfl))
    | ((with_reducible apply wpT1_skipL); exact rfl; (simp only [List.set_cons_succ, List.set_cons_zero]; exact rfl)))
          refine wpT_nil ?_
          clear hR; intro w hR
          go_upto_region 19 with fail
          refine wp_region_rows hR [0, 1, 2, 3, 4, 5, 6, 7, 8, 9, 10, 11, 12, 13, 14, 15, 16, 17, 18, 19, 20, 21, 22, 23, 24, 25, 26, 27] 0 (by kernel_rfl) (by kernel_rfl) (by kernel_rfl) rfl ?_
          clear hR; intro hR
          repeat (refine wpT_step rfl ?_; first
    | ((with_reducible apply q_kn); exact rfl; (with_reducible apply t_call Try.call9); (first | (apply EvC.gv; exact rfl; (with_reducible first | exact Imp.refl _ | (apply Imp.left; exact Imp.refl _) | (apply Imp.right; exact Imp.refl _) | (apply Imp.left; apply Imp.left; exact Imp.refl _))) | (apply EvC.now; exact rfl) | exact rfl | (with_reducible exact EvAll.nil) | (focus (repeat (first | apply EvAll.cons | exact EvAll.nil | (apply EvC.gv; exact rfl; (with_reducible first | exact Imp.refl _ | (apply Imp.left; exact Imp.refl _) | (apply Imp.right; exact Imp.refl _) | (apply Imp.left; apply Imp.left; exact Imp.refl _))) | (apply EvC.now; exact rfl))); done) | (first | apply ext_inst | apply ext_row) | (focus (repeat (first | apply List.Mem.head | apply List.Mem.tail | apply List.mem_append_right)))); (intro hcc w hC; exact tame_below (awake7_any _) hC); (simp only [List.set_cons_succ, List.set_cons_zero]; exact rfl))
    | ((with_reducible apply q_kn); exact rfl; (first | ((with_reducible first | apply t_move | apply t_assign | apply t_addr (fRd _ (by decide)) | apply t_addr (fInst _ (by decide)) | apply t_addr (fRow _ (by decide)) | apply t_one tInt | apply t_one tWord | apply t_one tByte | apply t_one tBool | apply t_one tSlB | apply t_part tInst | apply t_part tRow) <;> (first | (apply EvC.gv; exact rfl; (with_reducible first | exact Imp.refl _ | (apply Imp.left; exact Imp.refl _) | (apply Imp.right; exact Imp.refl _) | (apply Imp.left; apply Imp.left; exact Imp.refl _))) | (apply EvC.now; exact rfl) | exact rfl | (with_reducible exact EvAll.nil) | (focus (repeat (first | apply EvAll.cons | exact EvAll.nil | (apply EvC.gv; exact rfl; (with_reducible first | exact Imp.refl _ | (apply Imp.left; exact Imp.refl _) | (apply Imp.right; exact Imp.refl _) | (apply Imp.left; apply Imp.left; exact Imp.refl _))) | (apply EvC.now; exact rfl))); done) | (first | apply ext_inst | apply ext_row) | (focus (repeat (first | apply List.Mem.head | apply List.Mem.tail | apply List.mem_append_right))))) | ((with_reducible apply t_pick); (apply EvC.now; exact rfl); (apply EvC.now; exact rfl))); (simp only [List.set_cons_succ, List.set_cons_zero]; exact rfl))
    | ((with_reducible apply q_kn); exact rfl; (with_reducible apply t_len Try.underlying26); (apply EvC.now; exact rfl); (simp only [List.set_cons_succ, List.set_cons_zero]; exact rfl))
    | ((with_reducible apply q_kn); exact rfl; (with_reducible apply t_cmp); (apply EvC.now; exact rfl); (apply EvC.now; exact rfl); (with_reducible first | exact HC4.out | exact HC5.out); (simp only [List.set_cons_succ, List.set_cons_zero]; exact rfl))
    | ((with_reducible apply q_kn); exact rfl; (with_reducible apply t_cutL (l := j) tBytes HS1.out); (apply EvC.now; exact rfl); (apply EvC.now; exact rfl); exact rfl; exact hjp; (simp only [List.set_cons_succ, List.set_cons_zero]; exact rfl))
    | ((with_reducible apply q_kn); exact rfl; (with_reducible apply t_cutLH (l := j) (h := n) tBytes HS2.out); (apply EvC.now; exact rfl); (apply EvC.now; exact rfl); (apply EvC.now; exact rfl); exact rfl; exact rfl; exact hjn; exact hny; (simp only [List.set_cons_succ, List.set_cons_zero]; exact rfl))
    | ((with_reducible apply q_kn); exact rfl; (with_reducible apply t_strW (bs := T) tText); (apply EvC.now; exact rfl); (with_reducible first | exact HT1.out | exact HT2.out); (simp only [List.set_cons_succ, List.set_cons_zero]; exact rfl))
    | ((with_reducible apply q_kn); exact rfl; (with_reducible apply t_strsame); (apply EvC.now; exact rfl); (apply EvC.now; exact rfl); (simp only [List.set_cons_succ, List.set_cons_zero]; exact rfl))
    | ((with_reducible apply wpT1_pure); exact rfl; intro K hK; go_simp; refine hK _ ?_; clear hK K; simp only [List.set_cons_succ, List.set_cons_zero]))
          refine wpT_nil ?_
          refine wpG_end hR (by kernel_rfl) ?_
          clear hR; intro w hR
          go_wp2
          go_ret
          exact ⟨rfl, hR.below⟩

set_option maxRecDepth 100000 in
theorem lifted (os : Os) (started : os.Started) (H : Type) (enc : TypeId × Value → H) :
    ReturnsInHanded {} Try.checked os 4 .any (Rows.scanAnySpec.pre6 enc Try.prog Try.f4 Rows.scanAnyRow.domain false) (Rows.scanAnySpec.post enc Try.prog Try.f4 false true false false) := by
  refine returnsInHanded_of_change (C := Try.checked) own started (by kernel_rfl) Try.func4
    (ChangeSpec.witness6 (enc := enc) (C := Try.checked) false ⟨#[], #[.slice none 0 0, .agg (encI zeroI), .int .i64 0], []⟩ 8 (by kernel_rfl) (by kernel_rfl) (by kernel_rfl) (by kernel_rfl)) ?_
  intro W base args ds gs before hval0 hW hcnd _
  have hval : ∀ (j : Nat) t v, Try.f4.params[j]? = some t → args[j]? = some v → Value.okWide Try.prog W .any base t v := hval0
  have hW' := hW
  obtain ⟨p, q, hA0, hV, rfl, hfz, hnd⟩ := hW
  have hA : DataW.TrodAll enc Try.prog W 0 (fun _ => true) true Try.f4.params.toList args.toList ds p := hA0
  rw [Try.params4] at hA hval
  obtain ⟨v0, vs0, d0, ds0, p0, q0, hargs, rfl, rfl, h0, r0⟩ := trodAll_cons hA
  obtain ⟨v1, vs1, d1, ds1, p1, q1, rfl, rfl, rfl, h1, r1⟩ := trodAll_cons r0
  obtain ⟨v2, vs2, d2, ds2, p2, q2, rfl, rfl, rfl, h2, r2⟩ := trodAll_cons r1
  obtain ⟨rfl, rfl, rfl⟩ := trodAll_nil r2
  obtain rfl : args = #[v0, v1, v2] := by cases args; simp_all
  obtain ⟨rfl, rfl⟩ := trodVars_none hV
  have k0 := h0
  have lt0 : ∀ x ∈ p0, x.block < W.heap.size := by obtain ⟨m, hm⟩ := k0; exact DataW.trod_lt m _ _ _ hm
  have o0 := open_bytes (hval 0 26 v0 rfl rfl) h0
  have k1 := h1
  have lt1 : ∀ x ∈ p1, x.block < W.heap.size := by obtain ⟨m, hm⟩ := k1; exact DataW.trod_lt m _ _ _ hm
  obtain ⟨a2, rfl, rfl, rfl, w2⟩ := open_int Try.underlying3 (hval 2 3 v2 rfl rfl) h2
  clear hA0 hval0
  refine (walk v0 o0 v1 (hval 1 24 v1 rfl rfl) a2 w2 W).mono fun e W' ⟨he, bel⟩ => ?_
  subst he
  exact ⟨_, rfl, _, _, _, [], _, [], hW', trodAll_mk1 (shut_bool Try.underlying4 _), (trodAll_cons_mk (Below.trod laidOut (by kernel_rfl) (of_decide_eq_true (by kernel_rfl)) k0 bel lt0) (trodAll_cons_mk (Below.trod laidOut (by kernel_rfl) (of_decide_eq_true (by kernel_rfl)) k1 bel lt1) (trodAll_cons_mk (shut_int Try.underlying3 w2) trodAll_mk0))), rfl, bel.frame _, fun h => by cases h⟩

theorem over : Rows.scanAnyRow.holds Try.pinned (OpenSpec.ofChange Rows.scanAnySpec) :=
  OpenClaim.holds_of_wide 4 Try.f4 rfl rfl rfl rfl rfl rfl rfl ⟨rfl, rfl, rfl, rfl, rfl⟩ rfl rfl rfl rfl rfl (by kernel_rfl) Try.func4 (by kernel_rfl)
    (of_decide_eq_true (by kernel_rfl)) (by unfold Func.isWrapper; first | (rw [if_pos (by decide +kernel)]; kernel_rfl) | (rw [if_neg (by decide +kernel)]; exact ⟨rfl, rfl⟩))
    (fun os started H enc _ => lifted os started H enc)

theorem proved : Rows.ScanAnySaid := over
#print axioms proved
end Go.Proofs.Ytnhlogameldkfaa.scanAny
