










/- The contract of fixup.read: a fixup as it is read. No statement of the seat is proved here. -/
import Derived.Test.YtimciiaajlfkoaaFixE
namespace Go.Proofs.Ytimciiaajlfkoaa
open Go.ChangeShapes Go.WideShapes Go.ChangeAt Go.RowKit
set_option linter.unusedVariables false
set_option linter.unusedSimpArgs false

def readR (x : Int) (t : ThsZ) (s : SrcZ) : FixZ × SrcZ :=
  let p1 := numZ s 1
  let p2 := numZ p1.2 1
  let pf := frameR p2.1 t p2.2
  let pt := targetR p2.1 t pf.2
  let pd := dispR p2.1 pt.2
  (⟨x % 4 * 256 + p1.1, x / 4 % 16, decide (x / 64 % 2 = 0), pf.1.1, pf.1.2, pt.1.1, pt.1.2, pd.1.toNat⟩, pd.2)
theorem oneR_read (x n : Int) (t : ThsZ) (s : SrcZ) : oneR x n t s = ((readR x t s).1, if mayF (readR x t s).1 n then (readR x t s).2 else wrongZ (readR x t s).2 3) := rfl
/-! ### What is read keeps in bounds -/
theorem told_goes (h : ThrZ) (s : SrcZ) : Goes s (toldR h s).2 := by
  unfold toldR
  dsimp only
  split
  · exact Goes.refl s
  · exact wrong_goes s 5
theorem number_goes (b : Int) (s : SrcZ) : Goes s (numberR b s).2 := by
  unfold numberR
  split
  · exact index_goes s
  · exact Goes.refl s
theorem frame_goes (c : Int) (t : ThsZ) (s : SrcZ) : Goes s (frameR c t s).2 := by
  unfold frameR
  split
  · exact told_goes _ s
  · split
    · exact index_goes s
    · exact Goes.refl s
theorem target_goes (c : Int) (t : ThsZ) (s : SrcZ) : Goes s (targetR c t s).2 := by
  unfold targetR
  split
  · exact told_goes _ s
  · exact index_goes s
theorem disp_goes (c : Int) (s : SrcZ) : Goes s (dispR c s).2 := by
  unfold dispR
  split
  · exact num_goes s 2
  · exact Goes.refl s
theorem thread_goes (c : Int) (t : ThsZ) (s : SrcZ) : Goes s (threadR c t s).2 := by
  unfold threadR
  dsimp only
  split
  · exact (wrong_goes s 3).trans (number_goes _ _)
  · exact number_goes _ s
theorem read_goes (x : Int) (t : ThsZ) (s : SrcZ) : Goes s (readR x t s).2 := by
  unfold readR
  exact ((((num_goes s 1).trans (num_goes _ 1)).trans (frame_goes _ _ _)).trans (target_goes _ _ _)).trans (disp_goes _ _)
theorem i64B_of {x a b : Int} (h : a ≤ x ∧ x ≤ b) (ha : -9223372036854775808 ≤ a) (hb : b ≤ 9223372036854775807) : i64B x := ⟨by omega, by omega⟩
theorem thr_in {t : ThsZ} (h : t.ok) (fr : Bool) (j : Nat) : i64B ((if fr then t.fr else t.tg).getD j thr0).b ∧ i64B ((if fr then t.fr else t.tg).getD j thr0).n := by
  have h0 : i64B thr0.b ∧ i64B thr0.n := ⟨⟨by decide, by decide⟩, ⟨by decide, by decide⟩⟩
  cases fr
  · rw [if_neg (by decide), List.getD_eq_getElem?_getD]
    cases hx : t.tg[j]? with
    | none => exact h0
    | some x => exact h.b x (List.mem_append_right _ (List.mem_of_getElem? hx))
  · rw [if_pos rfl, List.getD_eq_getElem?_getD]
    cases hx : t.fr[j]? with
    | none => exact h0
    | some x => exact h.b x (List.mem_append_left _ (List.mem_of_getElem? hx))
theorem number_in {s : SrcZ} (hok : s.ok) (b : Int) : 0 ≤ (numberR b s).1 ∧ (numberR b s).1 ≤ 32767 := by
  unfold numberR
  split
  · exact index_range hok
  · exact ⟨by dsimp only; omega, by dsimp only; omega⟩
theorem frame_in {c : Int} {t : ThsZ} {s : SrcZ} (ht : t.ok) (hok : s.ok) : i64B (frameR c t s).1.1 ∧ i64B (frameR c t s).1.2 := by
  have hi := index_range hok
  unfold frameR
  split
  · exact thr_in ht true _
  · split
    · exact ⟨⟨by dsimp only; omega, by dsimp only; omega⟩, ⟨by dsimp only; omega, by dsimp only; omega⟩⟩
    · exact ⟨⟨by dsimp only; omega, by dsimp only; omega⟩, ⟨by dsimp only; omega, by dsimp only; omega⟩⟩
theorem target_in {c : Int} {t : ThsZ} {s : SrcZ} (ht : t.ok) (hok : s.ok) : i64B (targetR c t s).1.1 ∧ i64B (targetR c t s).1.2 := by
  have hi := index_range hok
  unfold targetR
  split
  · exact thr_in ht false _
  · exact ⟨⟨by dsimp only; omega, by dsimp only; omega⟩, ⟨by dsimp only; omega, by dsimp only; omega⟩⟩
theorem disp_in {c : Int} {s : SrcZ} (hok : s.ok) : 0 ≤ (dispR c s).1 ∧ (dispR c s).1 ≤ 65535 := by
  unfold dispR
  split
  · have := num_lt hok 2; exact ⟨this.1, by have := this.2; omega⟩
  · exact ⟨by dsimp only; omega, by dsimp only; omega⟩
theorem readR_ok {x : Int} {t : ThsZ} {s : SrcZ} (hx : 0 ≤ x ∧ x ≤ 255) (ht : t.ok) (hok : s.ok) : (readR x t s).1.ok := by
  have o1 := (num_goes s 1).ok hok
  have o2 := (num_goes (numZ s 1).2 1).ok o1
  have o3 := (frame_goes (numZ (numZ s 1).2 1).1 t (numZ (numZ s 1).2 1).2).ok o2
  have o4 := (target_goes (numZ (numZ s 1).2 1).1 t (frameR (numZ (numZ s 1).2 1).1 t (numZ (numZ s 1).2 1).2).2).ok o3
  have b1 := byte_bd hok
  have f1 := frame_in (c := (numZ (numZ s 1).2 1).1) ht o2
  have f2 := target_in (c := (numZ (numZ s 1).2 1).1) ht o3
  have f3 := disp_in (c := (numZ (numZ s 1).2 1).1) o4
  exact ⟨⟨by dsimp only [readR]; omega, by dsimp only [readR]; omega⟩, ⟨by dsimp only [readR]; omega, by dsimp only [readR]; omega⟩, f1.1, f1.2, f2.1, f2.2, by dsimp only [readR]; omega⟩
theorem threadR_ok {c : Int} {t : ThsZ} {s : SrcZ} (ht : t.ok) (hok : s.ok) : (threadR c t s).1.ok := by
  have hw := (wrong_goes s 3).ok hok
  have hb := byR_bd (decide (c / 64 % 2 = 1)) c
  unfold threadR
  dsimp only
  split
  · have := number_in hw (byR (decide (c / 64 % 2 = 1)) c)
    exact ht.put _ _ ⟨⟨by dsimp only; omega, by dsimp only; omega⟩, ⟨by dsimp only; omega, by dsimp only; omega⟩⟩
  · have := number_in hok (byR (decide (c / 64 % 2 = 1)) c)
    exact ht.put _ _ ⟨⟨by dsimp only; omega, by dsimp only; omega⟩, ⟨by dsimp only; omega, by dsimp only; omega⟩⟩
theorem or_256 {y b : Int} (hy : 0 ≤ y ∧ y ≤ 3) (hb : 0 ≤ b ∧ b ≤ 255) : bits .or .i64 (y * 256) b = y * 256 + b := by
  have := (by decide +kernel : ∀ (m : Fin 4) (n : Fin 256), bits .or .i64 (((m.val : Nat) : Int) * 256) ((n.val : Nat) : Int) = ((m.val : Nat) : Int) * 256 + ((n.val : Nat) : Int)) ⟨y.toNat, by omega⟩ ⟨b.toNat, by omega⟩
  rwa [show ((y.toNat : Nat) : Int) = y by omega, show ((b.toNat : Nat) : Int) = b by omega] at this
theorem bFix2 (l : Int) (b : Bool) : Built Try.prog 24 [(1, .int .i64 l), (2, .bool b)] (encF ⟨0, l, b, 0, 0, 0, 0, 0⟩) := ⟨by cases b <;> kernel_rfl⟩
section
variable {w0 w : World} {l X sr : List RowT} {g : Nat} {cs : Array Value} {s : SrcZ}
set_option maxHeartbeats 4000000 in
theorem fixRead_any (hO : Own w0 w l) (hd : Les [(g, cs, 76)] l X) (hY : ∀ r ∈ sr, r ∈ X) (hS : SrcObj w0 sr cs s) (hok : s.ok) (hl : s.b.length ≤ 1000000) (x : Int) (h0 : 0 ≤ x) (h1 : x ≤ 255) (t : ThsZ) (ht : t.ok) : Calls Try.prog 31 #[.pointer (some ⟨g, 0, none⟩), .int .u8 x, .agg (encThs t)] w fun e w' => e = .returned (.agg (encF (readR x t s).1)) ∧ ThenS w0 g X sr (readR x t s).2 w' := by
  have hR : Own w0 w ((g, cs, 76) :: X) := hO.les hd
  clear hO hd
  obtain ⟨⟨a, s1⟩, e1⟩ : ∃ p, numZ s 1 = p := ⟨_, rfl⟩
  obtain ⟨⟨c, s2⟩, e2⟩ : ∃ p, numZ s1 1 = p := ⟨_, rfl⟩
  obtain ⟨⟨⟨fr, fn⟩, s3⟩, e3⟩ : ∃ p, frameR c t s2 = p := ⟨_, rfl⟩
  obtain ⟨⟨⟨tg, n⟩, s4⟩, e4⟩ : ∃ p, targetR c t s3 = p := ⟨_, rfl⟩
  obtain ⟨⟨d, s5⟩, e5⟩ : ∃ p, dispR c s4 = p := ⟨_, rfl⟩
  have u1 := num_goes s 1
  rw [e1] at u1
  have u2 := num_goes s1 1
  rw [e2] at u2
  have u3 := frame_goes c t s2
  rw [e3] at u3
  have u4 := target_goes c t s3
  rw [e4] at u4
  dsimp only at u1 u2 u3 u4
  have o1 := u1.ok hok
  have o2 := u2.ok o1
  have o3 := u3.ok o2
  have o4 := u4.ok o3
  have l1 := Nat.le_trans u1.len hl
  have l2 := Nat.le_trans u2.len l1
  have l3 := Nat.le_trans u3.len l2
  have l4 := Nat.le_trans u4.len l3
  have hab := byte_bd hok
  rw [e1] at hab
  have hcb := byte_bd o1
  rw [e2] at hcb
  have hdb := disp_in (c := c) o4
  rw [e5] at hdb
  dsimp only at hab hcb hdb
  obtain ⟨d, rfl⟩ := Int.eq_ofNat_of_zero_le hdb.1
  obtain ⟨y, hy⟩ : ∃ y, x % 4 = y := ⟨_, rfl⟩
  obtain ⟨lo, hlo⟩ : ∃ y, x / 4 % 16 = y := ⟨_, rfl⟩
  obtain ⟨sf, hsf⟩ : ∃ y, decide (x / 64 % 2 = 0) = y := ⟨_, rfl⟩
  have HRD := Lib.hid (show readR x t s = (⟨y * 256 + a, lo, sf, fr, fn, tg, n, d⟩, s5) by
    unfold readR
    rw [e1]; dsimp only; rw [e2]; dsimp only; rw [e3]; dsimp only; rw [e4]; dsimp only; rw [e5]; dsimp only
    rw [hy, hlo, hsf, Int.toNat_natCast])
  obtain ⟨x4, hx4⟩ : ∃ y, x / 4 = y := ⟨_, rfl⟩
  have H2 := Lib.hid (show x / 2 ^ 2 = x4 from hx4)
  rw [hx4] at hlo
  have HL := Lib.hid (show bits .and .u8 x4 15 = lo by rw [fx15 (by omega) (by omega)]; exact hlo)
  have HCL := Lib.hid (show IntKind.i64.wrap lo = lo from IntWalk.i64_in _ (by omega))
  obtain ⟨x64, hx64⟩ : ∃ y, x / 64 % 2 * 64 = y := ⟨_, rfl⟩
  have H64 := Lib.hid (show bits .and .u8 x 64 = x64 by rw [fx64 h0 h1]; exact hx64)
  have HSF := Lib.hid (show cmpB .eql x64 0 = some sf by rw [← hsf, ← hx64]; exact congrArg some (by rw [Bool.eq_iff_iff]; simp only [beq_iff_eq, decide_eq_true_eq]; omega))
  have HY := Lib.hid (show bits .and .u8 x 3 = y by rw [fx3 h0 h1]; exact hy)
  have HCY := Lib.hid (show IntKind.i64.wrap y = y from IntWalk.i64_in _ (by omega))
  have H8 := Lib.hid (show IntKind.i64.wrap (y * 2 ^ 8) = y * 256 from IntWalk.i64_in _ (by omega))
  have HCA := Lib.hid (show IntKind.i64.wrap a = a from IntWalk.i64_in _ (by omega))
  have HOR := Lib.hid (show bits .or .i64 (y * 256) a = y * 256 + a from or_256 (by omega) hab)
  have E1 := Lib.hid e1
  have E2 := Lib.hid e2
  have E3 := Lib.hid e3
  have E4 := Lib.hid e4
  obtain ⟨at_, hat⟩ : ∃ z, y * 256 + a = z := ⟨_, rfl⟩
  rw [hat] at HOR HRD
  obtain ⟨y8, hy8⟩ : ∃ z, y * 256 = z := ⟨_, rfl⟩
  rw [hy8] at HOR H8
  have E5 := Lib.hid e5
  clear e1 e2 e3 e4 e5 u1 u2 u3 u4 hy hlo hsf hx4 hx64 hat hy8
  go_enter Try.func31, Try.ntmps31
  go_upto_region 1 with (first
    | ((with_reducible apply wpList_box hR); exact rfl; exact rfl; clear hR; intro g5 w hR; simp only [List.set_cons_succ, List.set_cons_zero])
    | ((with_reducible apply wpList_make hR zFix); exact rfl; clear hR; intro g6 w hR; simp only [List.set_cons_succ, List.set_cons_zero]))
  go_upto_region 2 with (first
    | ((with_reducible apply q_ls hR); exact rfl; (with_reducible apply t_shrE (k := 2)); (apply EvC.now; exact rfl); (apply EvC.now; exact rfl); exact rfl; (decide); exact H2.out; (simp only [List.set_cons_succ, List.set_cons_zero]; exact rfl); clear hR; intro w hR)
    | ((with_reducible apply q_ls hR); exact rfl; (with_reducible apply t_numE); (apply EvC.now; exact rfl); (apply EvC.now; exact rfl); exact rfl; (with_reducible (first | exact HL.out | exact H64.out)); (simp only [List.set_cons_succ, List.set_cons_zero]; exact rfl); clear hR; intro w hR)
    | ((with_reducible apply q_ls hR); exact rfl; (with_reducible apply t_conv Try.underlying5 Try.underlying3); (apply EvC.now; exact rfl); (with_reducible (exact HCL.out)); (simp only [List.set_cons_succ, List.set_cons_zero]; exact rfl); clear hR; intro w hR)
    | ((with_reducible apply q_ls hR); exact rfl; (with_reducible apply t_cmp); (apply EvC.now; exact rfl); (apply EvC.now; exact rfl); exact HSF.out; (simp only [List.set_cons_succ, List.set_cons_zero]; exact rfl); clear hR; intro w hR)
    | ((with_reducible apply wpList_built); exact rfl; exact rfl; exact bFix2 _ _; (simp only [List.set_cons_succ, List.set_cons_zero]; exact rfl))
    | ((with_reducible apply wpList_make hR zFix); exact rfl; clear hR; intro g7 w hR; simp only [List.set_cons_succ, List.set_cons_zero])
    | ((with_reducible apply wpList_put hR tFix); exact rfl; exact rfl; exact rfl; (focus (repeat (first | apply List.Mem.head | apply List.Mem.tail | apply List.mem_append_right))); exact put_fix _ _; exact rfl; simp [encF]; exact one_fix _; (focus (repeat (first | apply Upd.head | apply Upd.tail | apply Upd.skipC))); clear hR; intro w hR)
    | ((with_reducible apply q_ls hR); exact rfl; ((with_reducible first | apply t_addr (fFix _ (by decide)) | apply t_addr (fThs _ (by decide)) | apply t_addr (fThr _ (by decide)) | apply t_one tByteR | apply t_one tIntR | apply t_one tBoolF | apply t_one tWordF | apply t_part tFix) <;> (first | (apply EvC.gv; exact rfl; (with_reducible first | exact Imp.refl _ | (apply Imp.left; exact Imp.refl _) | (apply Imp.right; exact Imp.refl _) | (apply Imp.left; apply Imp.left; exact Imp.refl _))) | (apply EvC.now; exact rfl) | exact rfl | (with_reducible exact EvAll.nil) | (focus (repeat (first | apply EvAll.cons | exact EvAll.nil | (apply EvC.gv; exact rfl; (with_reducible first | exact Imp.refl _ | (apply Imp.left; exact Imp.refl _) | (apply Imp.right; exact Imp.refl _) | (apply Imp.left; apply Imp.left; exact Imp.refl _))) | (apply EvC.now; exact rfl))); done) | exact ext_fix _ | (focus (repeat (first | apply List.Mem.head | apply List.Mem.tail | apply List.mem_append_right))))); (simp only [List.set_cons_succ, List.set_cons_zero]; exact rfl); clear hR; intro w hR))
  replace hR := hR.les (Les.tail (Les.tail (Les.tail Les.one)))
  go_wp2_with (first
    | ((with_reducible apply q_ls hR); exact rfl; (with_reducible apply t_numE); (apply EvC.now; exact rfl); (apply EvC.now; exact rfl); exact rfl; (with_reducible (first | exact HY.out)); (simp only [List.set_cons_succ, List.set_cons_zero]; exact rfl); clear hR; intro w hR)
    | ((with_reducible apply q_ls hR); exact rfl; (with_reducible apply t_conv Try.underlying5 Try.underlying3); (apply EvC.now; exact rfl); (with_reducible (exact HCY.out)); (simp only [List.set_cons_succ, List.set_cons_zero]; exact rfl); clear hR; intro w hR)
    | ((with_reducible apply q_ls hR); exact rfl; (with_reducible apply t_shlE (k := 8)); (apply EvC.now; exact rfl); (apply EvC.now; exact rfl); exact rfl; (decide); exact H8.out; (simp only [List.set_cons_succ, List.set_cons_zero]; exact rfl); clear hR; intro w hR)
    | ((with_reducible apply q_ls hR); exact rfl; ((with_reducible first | apply t_addr (fFix _ (by decide)) | apply t_addr (fThs _ (by decide)) | apply t_addr (fThr _ (by decide)) | apply t_one tByteR | apply t_one tIntR | apply t_one tBoolF | apply t_one tWordF | apply t_part tFix) <;> (first | (apply EvC.gv; exact rfl; (with_reducible first | exact Imp.refl _ | (apply Imp.left; exact Imp.refl _) | (apply Imp.right; exact Imp.refl _) | (apply Imp.left; apply Imp.left; exact Imp.refl _))) | (apply EvC.now; exact rfl) | exact rfl | (with_reducible exact EvAll.nil) | (focus (repeat (first | apply EvAll.cons | exact EvAll.nil | (apply EvC.gv; exact rfl; (with_reducible first | exact Imp.refl _ | (apply Imp.left; exact Imp.refl _) | (apply Imp.right; exact Imp.refl _) | (apply Imp.left; apply Imp.left; exact Imp.refl _))) | (apply EvC.now; exact rfl))); done) | exact ext_fix _ | (focus (repeat (first | apply List.Mem.head | apply List.Mem.tail | apply List.mem_append_right))))); (simp only [List.set_cons_succ, List.set_cons_zero]; exact rfl); clear hR; intro w hR))
  refine (byteX_any hR Les.one (fun r hr => .tail _ (.tail _ (.tail _ (hY r hr)))) hS hok hl).mono ?_
  rw [E1.out]
  rintro e w' ⟨rfl, cs2, hR2, hS2⟩
  clear hR hS
  have hR := hR2
  have hS := hS2
  clear hR2 hS2
  go_upto_region 3 with (first
    | ((with_reducible apply q_ls hR); exact rfl; (with_reducible apply t_numE); (apply EvC.now; exact rfl); (apply EvC.now; exact rfl); exact rfl; (with_reducible (first | exact HOR.out)); (simp only [List.set_cons_succ, List.set_cons_zero]; exact rfl); clear hR; intro w hR)
    | ((with_reducible apply q_ls hR); exact rfl; (with_reducible apply t_conv Try.underlying5 Try.underlying3); (apply EvC.now; exact rfl); (with_reducible (exact HCA.out)); (simp only [List.set_cons_succ, List.set_cons_zero]; exact rfl); clear hR; intro w hR)
    | ((with_reducible apply wpList_put1 hR tIntR); exact rfl; exact rfl; exact rfl; (focus (repeat (first | apply List.Mem.head | apply List.Mem.tail | apply List.mem_append_right))); (exact put_fa _ _); (simp [encF]); exact rfl; (focus (repeat (first | apply Upd.head | apply Upd.tail | apply Upd.skipC))); clear hR; intro w hR)
    | ((with_reducible apply q_ls hR); exact rfl; ((with_reducible first | apply t_addr (fFix _ (by decide)) | apply t_addr (fThs _ (by decide)) | apply t_addr (fThr _ (by decide)) | apply t_one tByteR | apply t_one tIntR | apply t_one tBoolF | apply t_one tWordF | apply t_part tFix) <;> (first | (apply EvC.gv; exact rfl; (with_reducible first | exact Imp.refl _ | (apply Imp.left; exact Imp.refl _) | (apply Imp.right; exact Imp.refl _) | (apply Imp.left; apply Imp.left; exact Imp.refl _))) | (apply EvC.now; exact rfl) | exact rfl | (with_reducible exact EvAll.nil) | (focus (repeat (first | apply EvAll.cons | exact EvAll.nil | (apply EvC.gv; exact rfl; (with_reducible first | exact Imp.refl _ | (apply Imp.left; exact Imp.refl _) | (apply Imp.right; exact Imp.refl _) | (apply Imp.left; apply Imp.left; exact Imp.refl _))) | (apply EvC.now; exact rfl))); done) | exact ext_fix _ | (focus (repeat (first | apply List.Mem.head | apply List.Mem.tail | apply List.mem_append_right))))); (simp only [List.set_cons_succ, List.set_cons_zero]; exact rfl); clear hR; intro w hR))
  go_wp2_with (first
    | ((with_reducible apply q_ls hR); exact rfl; ((with_reducible first | apply t_addr (fFix _ (by decide)) | apply t_addr (fThs _ (by decide)) | apply t_addr (fThr _ (by decide)) | apply t_one tByteR | apply t_one tIntR | apply t_one tBoolF | apply t_one tWordF | apply t_part tFix) <;> (first | (apply EvC.gv; exact rfl; (with_reducible first | exact Imp.refl _ | (apply Imp.left; exact Imp.refl _) | (apply Imp.right; exact Imp.refl _) | (apply Imp.left; apply Imp.left; exact Imp.refl _))) | (apply EvC.now; exact rfl) | exact rfl | (with_reducible exact EvAll.nil) | (focus (repeat (first | apply EvAll.cons | exact EvAll.nil | (apply EvC.gv; exact rfl; (with_reducible first | exact Imp.refl _ | (apply Imp.left; exact Imp.refl _) | (apply Imp.right; exact Imp.refl _) | (apply Imp.left; apply Imp.left; exact Imp.refl _))) | (apply EvC.now; exact rfl))); done) | exact ext_fix _ | (focus (repeat (first | apply List.Mem.head | apply List.Mem.tail | apply List.mem_append_right))))); (simp only [List.set_cons_succ, List.set_cons_zero]; exact rfl); clear hR; intro w hR))
  refine (byteX_any hR Les.one (fun r hr => .tail _ (.tail _ (.tail _ (hY r hr)))) hS o1 l1).mono ?_
  rw [E2.out]
  rintro e w' ⟨rfl, cs2, hR2, hS2⟩
  clear hR hS
  have hR := hR2
  have hS := hS2
  clear hR2 hS2
  go_upto_region 5 with (first
    | ((with_reducible apply q_ls hR); exact rfl; (with_reducible apply t_part t4); (apply EvC.now; exact rfl); (focus (repeat (first | apply List.Mem.head | apply List.Mem.tail | apply List.mem_append_right))); exact ext_tf ht; exact enc4_size ht.fr; (simp only [List.set_cons_succ, List.set_cons_zero]; exact rfl); clear hR; intro w hR)
    | (go_at_call 43; refine (fixFrame2_any hR Les.one (fun r hr => .tail _ (.tail _ (.tail _ (hY r hr)))) hS o2 l2 c hcb.1 hcb.2 t ht).mono ?_; rw [E3.out]; rintro e w' ⟨rfl, cs2, hR2, hS2⟩; clear hR hS; have hR := hR2; have hS := hS2; clear hR2 hS2)
    | ((with_reducible apply wpList_put1 hR tIntR); exact rfl; exact rfl; exact rfl; (focus (repeat (first | apply List.Mem.head | apply List.Mem.tail | apply List.mem_append_right))); (first | exact put_ffr _ _ | exact put_ffn _ _); (simp [encF]); exact rfl; (focus (repeat (first | apply Upd.head | apply Upd.tail | apply Upd.skipC))); clear hR; intro w hR)
    | ((with_reducible apply q_ls hR); exact rfl; ((with_reducible first | apply t_addr (fFix _ (by decide)) | apply t_addr (fThs _ (by decide)) | apply t_addr (fThr _ (by decide)) | apply t_one tByteR | apply t_one tIntR | apply t_one tBoolF | apply t_one tWordF | apply t_part tFix) <;> (first | (apply EvC.gv; exact rfl; (with_reducible first | exact Imp.refl _ | (apply Imp.left; exact Imp.refl _) | (apply Imp.right; exact Imp.refl _) | (apply Imp.left; apply Imp.left; exact Imp.refl _))) | (apply EvC.now; exact rfl) | exact rfl | (with_reducible exact EvAll.nil) | (focus (repeat (first | apply EvAll.cons | exact EvAll.nil | (apply EvC.gv; exact rfl; (with_reducible first | exact Imp.refl _ | (apply Imp.left; exact Imp.refl _) | (apply Imp.right; exact Imp.refl _) | (apply Imp.left; apply Imp.left; exact Imp.refl _))) | (apply EvC.now; exact rfl))); done) | exact ext_fix _ | (focus (repeat (first | apply List.Mem.head | apply List.Mem.tail | apply List.mem_append_right))))); (simp only [List.set_cons_succ, List.set_cons_zero]; exact rfl); clear hR; intro w hR))
  go_upto_region 6 with (first
    | ((with_reducible apply q_ls hR); exact rfl; (with_reducible apply t_part t4); (apply EvC.now; exact rfl); (focus (repeat (first | apply List.Mem.head | apply List.Mem.tail | apply List.mem_append_right))); exact ext_tt ht; exact enc4_size ht.tg; (simp only [List.set_cons_succ, List.set_cons_zero]; exact rfl); clear hR; intro w hR)
    | (go_at_call 44; refine (fixTarget_any hR Les.one (fun r hr => .tail _ (.tail _ (.tail _ (hY r hr)))) hS o3 l3 c hcb.1 hcb.2 t ht).mono ?_; rw [E4.out]; rintro e w' ⟨rfl, cs2, hR2, hS2⟩; clear hR hS; have hR := hR2; have hS := hS2; clear hR2 hS2)
    | ((with_reducible apply wpList_put1 hR tIntR); exact rfl; exact rfl; exact rfl; (focus (repeat (first | apply List.Mem.head | apply List.Mem.tail | apply List.mem_append_right))); (first | exact put_ftg _ _ | exact put_fn _ _); (simp [encF]); exact rfl; (focus (repeat (first | apply Upd.head | apply Upd.tail | apply Upd.skipC))); clear hR; intro w hR)
    | ((with_reducible apply q_ls hR); exact rfl; ((with_reducible first | apply t_addr (fFix _ (by decide)) | apply t_addr (fThs _ (by decide)) | apply t_addr (fThr _ (by decide)) | apply t_one tByteR | apply t_one tIntR | apply t_one tBoolF | apply t_one tWordF | apply t_part tFix) <;> (first | (apply EvC.gv; exact rfl; (with_reducible first | exact Imp.refl _ | (apply Imp.left; exact Imp.refl _) | (apply Imp.right; exact Imp.refl _) | (apply Imp.left; apply Imp.left; exact Imp.refl _))) | (apply EvC.now; exact rfl) | exact rfl | (with_reducible exact EvAll.nil) | (focus (repeat (first | apply EvAll.cons | exact EvAll.nil | (apply EvC.gv; exact rfl; (with_reducible first | exact Imp.refl _ | (apply Imp.left; exact Imp.refl _) | (apply Imp.right; exact Imp.refl _) | (apply Imp.left; apply Imp.left; exact Imp.refl _))) | (apply EvC.now; exact rfl))); done) | exact ext_fix _ | (focus (repeat (first | apply List.Mem.head | apply List.Mem.tail | apply List.mem_append_right))))); (simp only [List.set_cons_succ, List.set_cons_zero]; exact rfl); clear hR; intro w hR))
  clear E1 E2 E3 E4 HOR H8 HCY HY HSF H64 HCL HL H2 HCA
  by_cases hc4 : c / 4 % 2 = 0
  · have HB4 := Lib.hid (show bits .and .u8 c 4 = 0 by rw [fx4 hcb.1 hcb.2]; omega)
    have HN := Lib.hid (show numZ s4 2 = ((d : Int), s5) by rw [← E5.out]; exact (if_pos hc4).symm)
    clear hc4 E5
    go_wp2_with (first
    | ((with_reducible apply q_ls hR); exact rfl; (with_reducible apply t_numE); (apply EvC.now; exact rfl); (apply EvC.now; exact rfl); exact rfl; (with_reducible (first | exact HB4.out)); (simp only [List.set_cons_succ, List.set_cons_zero]; exact rfl); clear hR; intro w hR)
    | ((with_reducible apply q_ls hR); exact rfl; ((with_reducible first | apply t_addr (fFix _ (by decide)) | apply t_addr (fThs _ (by decide)) | apply t_addr (fThr _ (by decide)) | apply t_one tByteR | apply t_one tIntR | apply t_one tBoolF | apply t_one tWordF | apply t_part tFix) <;> (first | (apply EvC.gv; exact rfl; (with_reducible first | exact Imp.refl _ | (apply Imp.left; exact Imp.refl _) | (apply Imp.right; exact Imp.refl _) | (apply Imp.left; apply Imp.left; exact Imp.refl _))) | (apply EvC.now; exact rfl) | exact rfl | (with_reducible exact EvAll.nil) | (focus (repeat (first | apply EvAll.cons | exact EvAll.nil | (apply EvC.gv; exact rfl; (with_reducible first | exact Imp.refl _ | (apply Imp.left; exact Imp.refl _) | (apply Imp.right; exact Imp.refl _) | (apply Imp.left; apply Imp.left; exact Imp.refl _))) | (apply EvC.now; exact rfl))); done) | exact ext_fix _ | (focus (repeat (first | apply List.Mem.head | apply List.Mem.tail | apply List.mem_append_right))))); (simp only [List.set_cons_succ, List.set_cons_zero]; exact rfl); clear hR; intro w hR))
    refine (wordX_any hR Les.one (fun r hr => .tail _ (.tail _ (.tail _ (hY r hr)))) hS o4 l4).mono ?_
    rw [HN.out]
    rintro e w' ⟨rfl, cs2, hR2, hS2⟩
    clear hR hS
    have hR := hR2
    have hS := hS2
    clear hR2 hS2
    go_wp2_with (first
    | ((with_reducible apply wpList_put1 hR tWordF); exact rfl; exact rfl; exact rfl; (focus (repeat (first | apply List.Mem.head | apply List.Mem.tail | apply List.mem_append_right))); (exact put_fd _ _); (simp [encF]); exact rfl; (focus (repeat (first | apply Upd.head | apply Upd.tail | apply Upd.skipC))); clear hR; intro w hR)
    | ((with_reducible apply wpList_put hR tFix); exact rfl; exact rfl; exact rfl; (focus (repeat (first | apply List.Mem.head | apply List.Mem.tail | apply List.mem_append_right))); exact put_fix _ _; exact rfl; simp [encF]; exact one_fix _; (focus (repeat (first | apply Upd.head | apply Upd.tail | apply Upd.skipC))); clear hR; intro w hR)
    | ((with_reducible apply q_ls hR); exact rfl; ((with_reducible first | apply t_addr (fFix _ (by decide)) | apply t_addr (fThs _ (by decide)) | apply t_addr (fThr _ (by decide)) | apply t_one tByteR | apply t_one tIntR | apply t_one tBoolF | apply t_one tWordF | apply t_part tFix) <;> (first | (apply EvC.gv; exact rfl; (with_reducible first | exact Imp.refl _ | (apply Imp.left; exact Imp.refl _) | (apply Imp.right; exact Imp.refl _) | (apply Imp.left; apply Imp.left; exact Imp.refl _))) | (apply EvC.now; exact rfl) | exact rfl | (with_reducible exact EvAll.nil) | (focus (repeat (first | apply EvAll.cons | exact EvAll.nil | (apply EvC.gv; exact rfl; (with_reducible first | exact Imp.refl _ | (apply Imp.left; exact Imp.refl _) | (apply Imp.right; exact Imp.refl _) | (apply Imp.left; apply Imp.left; exact Imp.refl _))) | (apply EvC.now; exact rfl))); done) | exact ext_fix _ | (focus (repeat (first | apply List.Mem.head | apply List.Mem.tail | apply List.mem_append_right))))); (simp only [List.set_cons_succ, List.set_cons_zero]; exact rfl); clear hR; intro w hR))
    (try simp only [Exit.inBlock, Exit.then])
    exact post_row hR rfl (by rfl) (by (focus (repeat (first | apply List.Mem.head | apply List.Mem.tail | apply List.mem_append_right)))) Try.underlying24 rfl iFix (by rfl) (by rfl) ⟨by rw [HRD.out], by rw [HRD.out]; exact ⟨_, hR.drop (.cons_cons _ (.cons _ (.cons _ (List.sublist_cons_self _ _)))), hS⟩⟩
  · have HB4 := Lib.hid (show bits .and .u8 c 4 = 4 by rw [fx4 hcb.1 hcb.2]; omega)
    have HN : ((0, s4) : Int × SrcZ) = ((d : Int), s5) := by rw [← E5.out]; exact (if_neg hc4).symm
    obtain rfl : s4 = s5 := congrArg Prod.snd HN
    obtain rfl : 0 = d := by have := congrArg Prod.fst HN; dsimp only at this; omega
    clear hc4 E5 HN
    go_wp2_with (first
    | ((with_reducible apply q_ls hR); exact rfl; (with_reducible apply t_numE); (apply EvC.now; exact rfl); (apply EvC.now; exact rfl); exact rfl; (with_reducible (first | exact HB4.out)); (simp only [List.set_cons_succ, List.set_cons_zero]; exact rfl); clear hR; intro w hR)
    | ((with_reducible apply wpList_put hR tFix); exact rfl; exact rfl; exact rfl; (focus (repeat (first | apply List.Mem.head | apply List.Mem.tail | apply List.mem_append_right))); exact put_fix _ _; exact rfl; simp [encF]; exact one_fix _; (focus (repeat (first | apply Upd.head | apply Upd.tail | apply Upd.skipC))); clear hR; intro w hR)
    | ((with_reducible apply q_ls hR); exact rfl; ((with_reducible first | apply t_addr (fFix _ (by decide)) | apply t_addr (fThs _ (by decide)) | apply t_addr (fThr _ (by decide)) | apply t_one tByteR | apply t_one tIntR | apply t_one tBoolF | apply t_one tWordF | apply t_part tFix) <;> (first | (apply EvC.gv; exact rfl; (with_reducible first | exact Imp.refl _ | (apply Imp.left; exact Imp.refl _) | (apply Imp.right; exact Imp.refl _) | (apply Imp.left; apply Imp.left; exact Imp.refl _))) | (apply EvC.now; exact rfl) | exact rfl | (with_reducible exact EvAll.nil) | (focus (repeat (first | apply EvAll.cons | exact EvAll.nil | (apply EvC.gv; exact rfl; (with_reducible first | exact Imp.refl _ | (apply Imp.left; exact Imp.refl _) | (apply Imp.right; exact Imp.refl _) | (apply Imp.left; apply Imp.left; exact Imp.refl _))) | (apply EvC.now; exact rfl))); done) | exact ext_fix _ | (focus (repeat (first | apply List.Mem.head | apply List.Mem.tail | apply List.mem_append_right))))); (simp only [List.set_cons_succ, List.set_cons_zero]; exact rfl); clear hR; intro w hR))
    (try simp only [Exit.inBlock, Exit.then])
    exact post_row hR rfl (by rfl) (by (focus (repeat (first | apply List.Mem.head | apply List.Mem.tail | apply List.mem_append_right)))) Try.underlying24 rfl iFix (by rfl) (by rfl) ⟨by rw [HRD.out], by rw [HRD.out]; exact ⟨_, hR.drop (.cons_cons _ (.cons _ (.cons _ (List.sublist_cons_self _ _)))), hS⟩⟩
end
end Go.Proofs.Ytimciiaajlfkoaa
