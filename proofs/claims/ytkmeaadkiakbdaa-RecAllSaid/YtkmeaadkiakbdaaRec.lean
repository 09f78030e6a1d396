






/- The contracts of package rec (and of bits.Low, High and Word, that it calls). No statement of the seat is proved here. -/
import Derived.Test.YtkmeaadkiakbdaaRecT
import Derived.Test.YtkmeaadkiakbdaaAppG
import Derived.Deep.DeepCutAuto
import Derived.Deep.CutBlock
namespace Go.Proofs.Ytkmeaadkiakbdaa
open Go.ChangeShapes Go.WideShapes Go.ChangeAt Go.RowKit
set_option linter.unusedVariables false
set_option linter.unusedSimpArgs false


theorem sub_rightR {a s l : List RowT} (h : a.Sublist l) : a.Sublist (s ++ l) := h.trans (List.sublist_append_right s l)
theorem ret_int2R {k l : IntKind} {a b c d : Int} (h : a = b) (h' : c = d) : Ending.returned (.tuple #[.int k a, .int l c]) = .returned (.tuple #[.int k b, .int l d]) := by rw [h, h']
theorem Upd.skipR {g : Nat} {c' : Array Value} {l l' : List RowT} (A : List RowT) (h : Upd g c' l l') : Upd g c' (A ++ l) (A ++ l') := by
  induction A with
  | nil => exact h
  | cons x A ih => exact .tail ih
theorem val_intR {k : IntKind} {a b : Int} (h : a = b) : Value.int k a = Value.int k b := by rw [h]
theorem iByteQ : (Try.prog.info? 5).map (·.size) = some 1 := by kernel_rfl
/-! ### Package bits -/
theorem lowR_any (x : Int) (w : World) (h0 : 0 ≤ x) (h1 : x ≤ 65535) :
    Calls Try.prog 18 #[.int .u16 x] w fun e w' => e = .returned (.int .u8 (x % 256)) ∧ w = w' := by
  go_enter Try.func18, Try.ntmps18
  go_wp2
  go_ret
  exact ⟨ret_int (by simp only [IntKind.wrap_u8]), rfl⟩
theorem highR_any (x : Int) (w : World) (h0 : 0 ≤ x) (h1 : x ≤ 65535) :
    Calls Try.prog 19 #[.int .u16 x] w fun e w' => e = .returned (.int .u8 (x / 256)) ∧ w = w' := by
  go_enter Try.func19, Try.ntmps19
  go_wp2
  go_ret
  exact ⟨ret_int (by first | rfl | (simp only [IntKind.wrap_u8]; omega)), rfl⟩
theorem wordR_any (l h : Int) (w : World) (h0 : 0 ≤ l) (h1 : l ≤ 255) (h2 : 0 ≤ h) (h3 : h ≤ 255) :
    Calls Try.prog 20 #[.int .u8 l, .int .u8 h] w fun e w' => e = .returned (.int .u16 (h * 256 + l)) ∧ w = w' := by
  go_enter Try.func20, Try.ntmps20
  go_wp2
  go_ret
  refine ⟨ret_int ?_, rfl⟩
  rw [u16_or _ _ (by omega) (by omega) (by omega) (by omega), nat_join 8 _ _ (by omega) (by omega)]
  omega
/-! ### A byte of what lies somewhere -/
theorem SrcW.el {w : World} {v : Value} {bs : List Int} (h : SrcW w v bs) {k : Nat} {n : Int} (hk : bs[k]? = some n) : ∃ a cap, v = .slice (some a) bs.length cap ∧ w.cell? (a.add k) = some (.int .u8 n) := by
  rcases h.way with ⟨_, h2⟩ | ⟨a, cap, h1, _, h3⟩
  · subst h2; exact nomatch hk
  · exact ⟨a, cap, h1, h3 k n hk⟩
/-! ### Sum -/
theorem sumN_bd' (ns : List Int) : 0 ≤ sumN ns ∧ sumN ns ≤ 255 := sumN_bd ns
theorem sumN_more {bs : List Int} {k : Nat} {n : Int} (h : bs[k]? = some n) : sumN (bs.take (k + 1)) = (sumN (bs.take k) - n) % 256 := by
  unfold sumN
  rw [List.take_add_one, h, sumI_append]
  simp only [Option.toList, sumI]
  omega
set_option maxHeartbeats 400000 in
theorem recsum_any {w0 : World} {v : Value} {bs : List Int} (h : SrcW w0 v bs) (hl : bs.length ≤ 1000000) :
    Calls Try.prog 10 #[v] w0 fun e w' => e = .returned (.int .u8 (sumN bs)) ∧ Below w0.heap.size w0 w' := by
  have hR := Own.start w0
  go_enter Try.func10, Try.ntmps10
  go_wp2_with (first
    | ((with_reducible apply q_ls hR); exact rfl; (with_reducible apply t_lenW Try.underlying22); (apply EvC.now; exact rfl); exact h; (simp only [List.set_cons_succ, List.set_cons_zero]; exact rfl); clear hR; intro w hR))
  go_loopw [3, 8] (fun s i wr => ∃ k : Nat, i = .int .i64 k ∧ k ≤ bs.length ∧ s = .int .u8 (sumN (bs.take k)) ∧ Own w0 wr []) (fun _ i _ => bs.length - (intOf i).toNat)
  case atStart => exact ⟨0, rfl, Nat.zero_le _, rfl, hR⟩
  case round =>
    clear hR
    obtain ⟨k, rfl, hk, rfl, hR⟩ := hrel
    by_cases hkl : k < bs.length
    · obtain ⟨n, hn⟩ : ∃ n, bs[k]? = some n := ⟨_, List.getElem?_eq_getElem hkl⟩
      have hbn := h.ok.at hn
      have hsum := sumN_more hn
      have hbd := sumN_bd (bs.take k)
      obtain ⟨a, cap, rfl, hc⟩ := h.el hn
      have HC := Lib.hid (show w0.cell? (a.add (k * 1)) = some (.int .u8 n) by rw [Nat.mul_one]; exact hc)
      generalize sumN (bs.take k) = s at *
      have HS := Lib.hid hsum
      have hkl' : (k : Int) < (bs.length : Int) := by omega
      clear hsum hn hc
      go_wp2_with (first
    | ((with_reducible apply q_ls hR); exact rfl; (with_reducible apply t_six Try.underlying22 iByteQ); (apply EvC.now; exact rfl); (apply EvC.now; exact rfl); (constructor <;> omega); (simp only [List.set_cons_succ, List.set_cons_zero]; exact rfl); clear hR; intro w hR)
    | ((with_reducible apply q_ls hR); exact rfl; (with_reducible apply t_oldCell tByteR); (apply EvC.now; exact rfl); (simpa using HC.out); (simp only [List.set_cons_succ, List.set_cons_zero]; exact rfl); clear hR; intro w hR))
      go_round
      case rel => exact ⟨k + 1, rfl, by omega, by rw [HS.out], hR⟩
      case measure => first | (simp [intOf]; done) | (simp [intOf]; omega)
    · have hke : bs.take k = bs := List.take_of_length_le (by omega)
      rw [hke]
      go_wp2_with fail
      go_ret
      exact ⟨rfl, hR.below⟩
/-! ### One record's bytes -/
set_option maxHeartbeats 400000 in
theorem recbig_any {w0 : World} {kind : Int} {v : Value} {bs : List Int} (h : SrcW w0 v bs) :
    Calls Try.prog 15 #[.agg #[.int .u8 kind, v]] w0 fun e w' => e = .returned (.bool (decide (4000 < bs.length))) ∧ Below w0.heap.size w0 w' := by
  have hR := Own.start w0
  have HB := Lib.hid (show decide ((4000 : Int) < (bs.length : Int)) = decide (4000 < bs.length) by simp; omega)
  go_enter Try.func15, Try.ntmps15
  go_wp2_with (first
    | ((with_reducible apply wpList_box hR); exact rfl; exact rfl; clear hR; intro g w hR; simp only [List.set_cons_succ, List.set_cons_zero])
    | ((with_reducible apply q_ls hR); exact rfl; (with_reducible apply t_lenW Try.underlying22); (apply EvC.now; exact rfl); exact h; (simp only [List.set_cons_succ, List.set_cons_zero]; exact rfl); clear hR; intro w hR)
    | ((with_reducible apply q_ls hR); exact rfl; ((with_reducible first | apply t_addr (fRec _ (by decide)) | apply t_one tByteR | apply t_one tSlR | apply t_one tIntR | apply t_part tRec) <;> (first | (apply EvC.gv; exact rfl; (with_reducible first | exact Imp.refl _ | (apply Imp.left; exact Imp.refl _) | (apply Imp.right; exact Imp.refl _) | (apply Imp.left; apply Imp.left; exact Imp.refl _))) | (apply EvC.now; exact rfl) | exact rfl | (with_reducible exact EvAll.nil) | (focus (repeat (first | apply EvAll.cons | exact EvAll.nil | (apply EvC.gv; exact rfl; (with_reducible first | exact Imp.refl _ | (apply Imp.left; exact Imp.refl _) | (apply Imp.right; exact Imp.refl _) | (apply Imp.left; apply Imp.left; exact Imp.refl _))) | (apply EvC.now; exact rfl))); done) | (exact ext_recQ _ _) | (focus (repeat (first | apply List.Mem.head | apply List.Mem.tail | apply List.mem_append_right))))); (simp only [List.set_cons_succ, List.set_cons_zero]; exact rfl); clear hR; intro w hR))
  go_ret
  exact ⟨ret_bool (by first | exact HB.out | (simp; omega) | simp), hR.below⟩
theorem bB3 (x y z : Int) : BuiltS Try.prog 22 3 [(0, .int .u8 x), (1, .int .u8 y), (2, .int .u8 z)] 5 #[.int .u8 x, .int .u8 y, .int .u8 z] := ⟨fun w => by simp [go_sem]⟩
theorem recB_two (kind : Int) (bs : List Int) (m : Nat) (hm : m = bs.length + 1) (h : m ≤ 65535) : [kind, (m : Int) % 256, (m : Int) / 256] ++ bs = recB kind bs := by
  subst hm
  rw [recB_head]
  simp only [List.cons_append, List.nil_append, List.cons.injEq, true_and, and_true]
  omega
set_option maxHeartbeats 1000000 in
theorem recwhole_any {w0 w : World} {L L' s : List RowT} {kind : Int} {v vb : Value} {n : Nat} {xs bs : List Int} (hk : 0 ≤ kind ∧ kind ≤ 255) (hO : Own w0 w L) (hd : Les s L L') (hS : Sl 5 1 s v n (cellsB xs)) (hx : bytesOk xs) (hn : n ≤ 100000000) (h : SrcW w0 vb bs) (hl : bs.length ≤ 4000) :
    Calls Try.prog 16 #[v, .agg #[.int .u8 kind, vb]] w fun e w' => ∃ s' v', e = .returned v' ∧ Own w0 w' (s' ++ L') ∧ Sl 5 1 s' v' (n + (bs.length + 4)) (cellsB (xs ++ recN kind bs)) := by
  have hR := hO.les hd
  clear hO hd
  have hnx : xs.length = n := by have := hS.len; rw [cellsB_len] at this; omega
  obtain ⟨m, hm⟩ : ∃ m, m = bs.length + 1 := ⟨_, rfl⟩
  have HA := Lib.hid (IntWalk.i64_in ((bs.length : Int) + 1) (by omega))
  have HC := Lib.hid (show IntKind.u16.wrap ((bs.length : Int) + 1) = (m : Int) by rw [IntKind.wrap_u16]; omega)
  have HM := Lib.hid hm
  have hm2 : m ≤ 4001 := by omega
  have hm3 : 0 < m := by omega
  have HX := Lib.hid (recB_two kind bs m hm (by omega))
  clear hm
  have hok : bytesOk [kind, (m : Int) % 256, (m : Int) / 256] := .cons hk (.cons (by omega) (.cons (by omega) .nil))
  go_enter Try.func16, Try.ntmps16
  go_upto_region 3 with (first
    | ((with_reducible apply wpList_box hR); exact rfl; exact rfl; clear hR; intro gi w hR; simp only [List.set_cons_succ, List.set_cons_zero])
    | ((with_reducible apply q_ls hR); exact rfl; (with_reducible apply t_lenSl Try.underlying22); (apply EvC.now; exact rfl); exact hS; (simp only [List.set_cons_succ, List.set_cons_zero]; exact rfl); clear hR; intro w hR)
    | ((with_reducible apply q_ls hR); exact rfl; (with_reducible apply t_lenW Try.underlying22); (apply EvC.now; exact rfl); exact h; (simp only [List.set_cons_succ, List.set_cons_zero]; exact rfl); clear hR; intro w hR)
    | ((with_reducible apply q_ls hR); exact rfl; (with_reducible apply t_conv Try.underlying3 Try.underlying48); (apply EvC.now; exact rfl); exact HC.out; (simp only [List.set_cons_succ, List.set_cons_zero]; exact rfl); clear hR; intro w hR)
    | ((with_reducible apply q_ls hR); exact rfl; ((with_reducible first | apply t_addr (fRec _ (by decide)) | apply t_one tByteR | apply t_one tSlR | apply t_one tIntR | apply t_part tRec) <;> (first | (apply EvC.gv; exact rfl; (with_reducible first | exact Imp.refl _ | (apply Imp.left; exact Imp.refl _) | (apply Imp.right; exact Imp.refl _) | (apply Imp.left; apply Imp.left; exact Imp.refl _))) | (apply EvC.now; exact rfl) | exact rfl | (with_reducible exact EvAll.nil) | (focus (repeat (first | apply EvAll.cons | exact EvAll.nil | (apply EvC.gv; exact rfl; (with_reducible first | exact Imp.refl _ | (apply Imp.left; exact Imp.refl _) | (apply Imp.right; exact Imp.refl _) | (apply Imp.left; apply Imp.left; exact Imp.refl _))) | (apply EvC.now; exact rfl))); done) | (exact ext_recQ _ _) | (focus (repeat (first | apply List.Mem.head | apply List.Mem.tail | apply List.mem_append_right))))); (simp only [List.set_cons_succ, List.set_cons_zero]; exact rfl); clear hR; intro w hR))
  refine wp_region_some hR ((gi, #[.int .u8 kind, vb], 26) :: L') (by (focus (repeat (with_reducible first | exact List.Sublist.slnil | exact List.nil_sublist _ | exact List.Sublist.refl _ | exact List.sublist_append_right _ _ | apply List.Sublist.cons_cons | apply List.Sublist.cons | apply sub_rightR)))) [0, 1, 2, 3, 4, 5, 6] 3 (by kernel_rfl) (by kernel_rfl) (by kernel_rfl) rfl ?_
  clear hR; intro hR
  repeat (refine wpT_step rfl ?_; first
    | ((first | (with_reducible apply q_pl) | ((with_reducible apply q_gd); (first | (apply GdBy.gt; exact rfl; exact rfl) | (apply GdBy.gf; exact rfl; exact rfl) | (apply GdBy.t; exact rfl; exact rfl) | (apply GdBy.f; exact rfl; exact rfl)))); (with_reducible apply t_call Try.call18); (first | (apply EvC.gv; exact rfl; (with_reducible first | exact Imp.refl _ | (apply Imp.left; exact Imp.refl _) | (apply Imp.right; exact Imp.refl _) | (apply Imp.left; apply Imp.left; exact Imp.refl _))) | (apply EvC.now; exact rfl) | exact rfl | (with_reducible exact EvAll.nil) | (focus (repeat (first | apply EvAll.cons | exact EvAll.nil | (apply EvC.gv; exact rfl; (with_reducible first | exact Imp.refl _ | (apply Imp.left; exact Imp.refl _) | (apply Imp.right; exact Imp.refl _) | (apply Imp.left; apply Imp.left; exact Imp.refl _))) | (apply EvC.now; exact rfl))); done) | (exact ext_recQ _ _) | (focus (repeat (first | apply List.Mem.head | apply List.Mem.tail | apply List.mem_append_right)))); (intro hcc w hC; exact tame_same (lowR_any _ _ (by omega) (by omega)) hC); (simp only [List.set_cons_succ, List.set_cons_zero]; exact rfl))
    | ((first | (with_reducible apply q_pl) | ((with_reducible apply q_gd); (first | (apply GdBy.gt; exact rfl; exact rfl) | (apply GdBy.gf; exact rfl; exact rfl) | (apply GdBy.t; exact rfl; exact rfl) | (apply GdBy.f; exact rfl; exact rfl)))); (with_reducible apply t_call Try.call19); (first | (apply EvC.gv; exact rfl; (with_reducible first | exact Imp.refl _ | (apply Imp.left; exact Imp.refl _) | (apply Imp.right; exact Imp.refl _) | (apply Imp.left; apply Imp.left; exact Imp.refl _))) | (apply EvC.now; exact rfl) | exact rfl | (with_reducible exact EvAll.nil) | (focus (repeat (first | apply EvAll.cons | exact EvAll.nil | (apply EvC.gv; exact rfl; (with_reducible first | exact Imp.refl _ | (apply Imp.left; exact Imp.refl _) | (apply Imp.right; exact Imp.refl _) | (apply Imp.left; apply Imp.left; exact Imp.refl _))) | (apply EvC.now; exact rfl))); done) | (exact ext_recQ _ _) | (focus (repeat (first | apply List.Mem.head | apply List.Mem.tail | apply List.mem_append_right)))); (intro hcc w hC; exact tame_same (highR_any _ _ (by omega) (by omega)) hC); (simp only [List.set_cons_succ, List.set_cons_zero]; exact rfl))
    | ((first | (with_reducible apply q_pl) | ((with_reducible apply q_gd); (first | (apply GdBy.gt; exact rfl; exact rfl) | (apply GdBy.gf; exact rfl; exact rfl) | (apply GdBy.t; exact rfl; exact rfl) | (apply GdBy.f; exact rfl; exact rfl)))); (first | ((with_reducible first | apply t_move | apply t_assign | apply t_and | apply t_or | apply t_cmp | apply t_not | apply t_addr (fRec _ (by decide)) | apply t_one tByteR | apply t_one tSlR | apply t_one tIntR | apply t_part tRec) <;> (first | (apply EvC.gv; exact rfl; (with_reducible first | exact Imp.refl _ | (apply Imp.left; exact Imp.refl _) | (apply Imp.right; exact Imp.refl _) | (apply Imp.left; apply Imp.left; exact Imp.refl _))) | (apply EvC.now; exact rfl) | exact rfl | (with_reducible exact EvAll.nil) | (focus (repeat (first | apply EvAll.cons | exact EvAll.nil | (apply EvC.gv; exact rfl; (with_reducible first | exact Imp.refl _ | (apply Imp.left; exact Imp.refl _) | (apply Imp.right; exact Imp.refl _) | (apply Imp.left; apply Imp.left; exact Imp.refl _))) | (apply EvC.now; exact rfl))); done) | (exact ext_recQ _ _) | (focus (repeat (first | apply List.Mem.head | apply List.Mem.tail | apply List.mem_append_right)))))); (simp only [List.set_cons_succ, List.set_cons_zero]; exact rfl)))
  refine wpT_nil ?_
  refine wpG_buildS hR (i := 7) (by kernel_rfl) rfl rfl rfl (bB3 _ _ _) (by (focus (repeat (with_reducible first | exact List.Sublist.slnil | exact List.nil_sublist _ | exact List.Sublist.refl _ | exact List.sublist_append_right _ _ | apply List.Sublist.cons_cons | apply List.Sublist.cons | apply sub_rightR)))) ?_
  clear hR; intro gb w hR
  simp only [List.set_cons_succ, List.set_cons_zero]
  refine wpG_appG hR (i := 8) (by kernel_rfl) tBytesB rfl rfl rfl rfl (by (focus (repeat (with_reducible first | apply Les.head | apply Les.one | apply Les.tail | apply Les.skip)))) hS (fun w1 h1 => (src_row h1 (.head _) rfl hok (by simp)).rd) (by simp [maxLen]; omega) (by simp; omega) (by (focus (repeat (with_reducible first | exact List.Sublist.slnil | exact List.nil_sublist _ | exact List.Sublist.refl _ | exact List.sublist_append_right _ _ | apply List.Sublist.cons_cons | apply List.Sublist.cons | apply sub_rightR)))) ?_
  clear hR hS; intro s2 v2 w hR hS
  simp only [List.set_cons_succ, List.set_cons_zero]
  refine wpG_slot hR (i := 9) (by kernel_rfl) rfl rfl (by (simp only [List.set_cons_succ, List.set_cons_zero]; exact rfl)) ?_
  clear hR; intro w hR
  refine wpG_end hR (by kernel_rfl) ?_
  clear hR; intro w hR
  rw [← cellsB_append] at hS
  have hro := recB_ok hk h.ok
  have hrl := recB_len kind bs
  have hsb := sumN_bd (recB kind bs)
  have hok1 : bytesOk [sumN (recB kind bs)] := .cons hsb .nil
  have hX2 : xs ++ [kind, (m : Int) % 256, (m : Int) / 256] ++ bs = xs ++ recB kind bs := by rw [List.append_assoc, HX.out]
  go_upto_region 5 with (first
    | ((with_reducible apply wpList_appG hR tBytesB); exact rfl; exact rfl; exact rfl; exact hS; (focus (repeat (with_reducible first | apply Les.head | apply Les.one | apply Les.tail | apply Les.skip))); (exact (h.own hR).rd); (simp [maxLen]; omega); (simp; omega); clear hR hS; intro s3 v3 w hR hS; simp only [List.set_cons_succ, List.set_cons_zero])
    | ((with_reducible apply q_ls hR); exact rfl; ((with_reducible first | apply t_addr (fRec _ (by decide)) | apply t_one tByteR | apply t_one tSlR | apply t_one tIntR | apply t_part tRec) <;> (first | (apply EvC.gv; exact rfl; (with_reducible first | exact Imp.refl _ | (apply Imp.left; exact Imp.refl _) | (apply Imp.right; exact Imp.refl _) | (apply Imp.left; apply Imp.left; exact Imp.refl _))) | (apply EvC.now; exact rfl) | exact rfl | (with_reducible exact EvAll.nil) | (focus (repeat (first | apply EvAll.cons | exact EvAll.nil | (apply EvC.gv; exact rfl; (with_reducible first | exact Imp.refl _ | (apply Imp.left; exact Imp.refl _) | (apply Imp.right; exact Imp.refl _) | (apply Imp.left; apply Imp.left; exact Imp.refl _))) | (apply EvC.now; exact rfl))); done) | (exact ext_recQ _ _) | (focus (repeat (first | apply List.Mem.head | apply List.Mem.tail | apply List.mem_append_right))))); (simp only [List.set_cons_succ, List.set_cons_zero]; exact rfl); clear hR; intro w hR))
  rw [← cellsB_append, hX2] at hS
  clear hX2 HX
  have hlen : (xs ++ recB kind bs).length = n + (bs.length + 3) := by rw [List.length_append, hrl, hnx]
  have hdr : ((xs ++ recB kind bs).take (xs ++ recB kind bs).length).drop n = recB kind bs := by rw [List.take_length, ← hnx, List.drop_left]
  have hQ := hS.src hR (fun r hr => List.mem_append_left _ hr) (hx.append hro)
  obtain ⟨X, hXe⟩ : ∃ X, xs ++ recB kind bs = X := ⟨_, rfl⟩
  obtain ⟨q, hq⟩ : ∃ q, sumN (recB kind bs) = q := ⟨_, rfl⟩
  have HXE := Lib.hid hXe
  have HQE := Lib.hid hq
  have HDR := Lib.hid hdr
  rw [hXe] at hS hlen hQ HDR
  rw [hq] at hsb hok1
  have hX1 : n ≤ X.length := by omega
  have hX3 : X.length ≤ 200000000 := by omega
  have hX5 : X.length ≤ n + 4003 := by omega
  have HLEN := Lib.hid hlen
  clear hXe hdr hq hrl hro hlen hnx HA HC HM hm2 hm3 hok
  go_wp2_with (first
    | ((with_reducible apply q_ls hR); exact rfl; (with_reducible apply t_cutL tBytesN hQ (l := n)); (apply EvC.now; exact rfl); (apply EvC.now; exact rfl); exact rfl; omega; (simp only [List.set_cons_succ, List.set_cons_zero]; exact rfl); clear hR; intro w hR)
    | (go_at_call 10; refine (recsum_any ((hS.src hR (fun r hr => List.mem_append_left _ hr) hQ.ok).cut n X.length (by omega) (Nat.le_refl _)) (by rw [List.length_drop, List.length_take]; omega)).mono ?_; rw [HDR.out, HQE.out]; rintro e w' ⟨rfl, hb⟩; replace hR := hR.grow hb; clear hb)
    | ((with_reducible apply wpList_buildS hR); exact rfl; exact rfl; (exact bB1 _); clear hR; intro gc w hR; simp only [List.set_cons_succ, List.set_cons_zero])
    | ((with_reducible apply wpList_appG hR tBytesB); exact rfl; exact rfl; exact rfl; exact hS; (focus (repeat (with_reducible first | apply Les.head | apply Les.one | apply Les.tail | apply Les.skip))); (exact (src_row hR (.head _) rfl hok1 (by simp)).rd); (simp [maxLen]; omega); (simp; omega); clear hR hS; intro s4 v4 w hR hS; simp only [List.set_cons_succ, List.set_cons_zero])
    | ((with_reducible apply q_ls hR); exact rfl; ((with_reducible first | apply t_addr (fRec _ (by decide)) | apply t_one tByteR | apply t_one tSlR | apply t_one tIntR | apply t_part tRec) <;> (first | (apply EvC.gv; exact rfl; (with_reducible first | exact Imp.refl _ | (apply Imp.left; exact Imp.refl _) | (apply Imp.right; exact Imp.refl _) | (apply Imp.left; apply Imp.left; exact Imp.refl _))) | (apply EvC.now; exact rfl) | exact rfl | (with_reducible exact EvAll.nil) | (focus (repeat (first | apply EvAll.cons | exact EvAll.nil | (apply EvC.gv; exact rfl; (with_reducible first | exact Imp.refl _ | (apply Imp.left; exact Imp.refl _) | (apply Imp.right; exact Imp.refl _) | (apply Imp.left; apply Imp.left; exact Imp.refl _))) | (apply EvC.now; exact rfl))); done) | (exact ext_recQ _ _) | (focus (repeat (first | apply List.Mem.head | apply List.Mem.tail | apply List.mem_append_right))))); (simp only [List.set_cons_succ, List.set_cons_zero]; exact rfl); clear hR; intro w hR))
  go_ret
  refine ⟨s4, v4, rfl, hR.drop (List.Sublist.append (List.Sublist.refl _) (by (focus (repeat (with_reducible first | exact List.Sublist.slnil | exact List.nil_sublist _ | exact List.Sublist.refl _ | exact List.sublist_append_right _ _ | apply List.Sublist.cons_cons | apply List.Sublist.cons | apply sub_rightR))))), ?_⟩
  rw [← cellsB_append] at hS
  have hfin : X ++ [q] = xs ++ recN kind bs := by rw [← HXE.out, ← HQE.out, List.append_assoc]; rfl
  rw [hfin] at hS
  have hnum : n + [kind, (m : Int) % 256, (m : Int) / 256].length + bs.length + [q].length = n + (bs.length + 4) := by simp only [List.length_cons, List.length_nil]; omega
  rw [hnum] at hS
  exact hS
/-! ### Put -/
theorem putR_ok {kind : Int} {bs : List Int} (hk : 0 ≤ kind ∧ kind ≤ 255) (h : bytesOk bs) : bytesOk (putR kind bs) := by
  unfold putR; split
  · exact recN_ok hk h
  · exact .nil
set_option maxHeartbeats 400000 in
theorem recput_own {w0 : World} {kind : Int} {v : Value} {bs : List Int} (hk : 0 ≤ kind ∧ kind ≤ 255) (h : SrcW w0 v bs) :
    Calls Try.prog 7 #[.agg #[.int .u8 kind, v]] w0 fun e w' => RetB w0 w' (fun v => v) e (putR kind bs) := by
  have hR := Own.start w0
  have HV := Lib.hid (rfl : putR kind bs = putR kind bs)
  by_cases hb : 4000 < bs.length
  · have HB := Lib.hid (decide_eq_true hb)
    have HP : Hid (putR kind bs = []) := Lib.hid (by unfold putR; rw [if_neg (by omega)])
    clear hb HV
    go_enter Try.func7, Try.ntmps7
    go_wp2_with (first
    | ((with_reducible apply wpList_box hR); exact rfl; exact rfl; clear hR; intro g w hR; simp only [List.set_cons_succ, List.set_cons_zero])
    | (go_at_call 15; refine (recbig_any (h.own hR)).mono ?_; rw [HB.out]; rintro e w' ⟨rfl, hb⟩; replace hR := hR.grow hb; clear hb)
    | ((with_reducible apply q_ls hR); exact rfl; ((with_reducible first | apply t_addr (fRec _ (by decide)) | apply t_one tByteR | apply t_one tSlR | apply t_one tIntR | apply t_part tRec) <;> (first | (apply EvC.gv; exact rfl; (with_reducible first | exact Imp.refl _ | (apply Imp.left; exact Imp.refl _) | (apply Imp.right; exact Imp.refl _) | (apply Imp.left; apply Imp.left; exact Imp.refl _))) | (apply EvC.now; exact rfl) | exact rfl | (with_reducible exact EvAll.nil) | (focus (repeat (first | apply EvAll.cons | exact EvAll.nil | (apply EvC.gv; exact rfl; (with_reducible first | exact Imp.refl _ | (apply Imp.left; exact Imp.refl _) | (apply Imp.right; exact Imp.refl _) | (apply Imp.left; apply Imp.left; exact Imp.refl _))) | (apply EvC.now; exact rfl))); done) | (exact ext_recQ _ _) | (focus (repeat (first | apply List.Mem.head | apply List.Mem.tail | apply List.mem_append_right))))); (simp only [List.set_cons_succ, List.set_cons_zero]; exact rfl); clear hR; intro w hR))
    go_ret
    exact ⟨[], _, rfl, hR.drop (List.nil_sublist _), by rw [HP.out]; exact (Sl.nil 5 1).srcR (bs := []) .nil⟩
  · have HB := Lib.hid (decide_eq_false hb)
    have hl : bs.length ≤ 4000 := by omega
    have HP : Hid (putR kind bs = recN kind bs) := Lib.hid (by unfold putR; rw [if_pos (by omega)])
    clear hb HV
    go_enter Try.func7, Try.ntmps7
    go_wp2_with (first
    | ((with_reducible apply wpList_box hR); exact rfl; exact rfl; clear hR; intro g w hR; simp only [List.set_cons_succ, List.set_cons_zero])
    | (go_at_call 15; refine (recbig_any (h.own hR)).mono ?_; rw [HB.out]; rintro e w' ⟨rfl, hb⟩; replace hR := hR.grow hb; clear hb)
    | (go_at_call 16; refine (recwhole_any (s := []) (xs := []) (n := 0) hk hR (Les.head (s := [])) (Sl.nil _ _) .nil (by omega) h hl).mono ?_; rintro e w' ⟨s2, v2, rfl, hO, hS⟩; clear hR; have hR := hO; clear hO)
    | ((with_reducible apply q_ls hR); exact rfl; ((with_reducible first | apply t_addr (fRec _ (by decide)) | apply t_one tByteR | apply t_one tSlR | apply t_one tIntR | apply t_part tRec) <;> (first | (apply EvC.gv; exact rfl; (with_reducible first | exact Imp.refl _ | (apply Imp.left; exact Imp.refl _) | (apply Imp.right; exact Imp.refl _) | (apply Imp.left; apply Imp.left; exact Imp.refl _))) | (apply EvC.now; exact rfl) | exact rfl | (with_reducible exact EvAll.nil) | (focus (repeat (first | apply EvAll.cons | exact EvAll.nil | (apply EvC.gv; exact rfl; (with_reducible first | exact Imp.refl _ | (apply Imp.left; exact Imp.refl _) | (apply Imp.right; exact Imp.refl _) | (apply Imp.left; apply Imp.left; exact Imp.refl _))) | (apply EvC.now; exact rfl))); done) | (exact ext_recQ _ _) | (focus (repeat (first | apply List.Mem.head | apply List.Mem.tail | apply List.mem_append_right))))); (simp only [List.set_cons_succ, List.set_cons_zero]; exact rfl); clear hR; intro w hR))
    go_ret
    exact ⟨s2, _, rfl, hR.drop (List.sublist_append_left _ _), by rw [HP.out]; exact hS.srcR (recN_ok hk h.ok)⟩
theorem recput_any {w : World} {kind : Int} {v : Value} {bs : List Int} (hk : 0 ≤ kind ∧ kind ≤ 255) (h : SrcW w v bs) (hl : bs.length ≤ 1000000) :
    Calls Try.prog 7 #[.agg #[.int .u8 kind, v]] w fun e w' => ∃ v', e = .returned v' ∧ Below w.heap.size w w' ∧ SrcW w' v' (putR kind bs) :=
  (recput_own hk h).mono fun e w' hq => hq.now
/-! ### length -/
def lenZ (bs : List Int) : Nat × Int :=
  if bs.length < 3 then (0, 2) else if lenR bs = 0 then (0, 3) else if 4001 < lenR bs then (0, 8) else if bs.length < lenR bs + 3 then (0, 2) else (lenR bs + 3, 0)
theorem len_ways (bs : List Int) : (∃ e, e ≠ 0 ∧ lenZ bs = (0, e) ∧ getR bs = errR e) ∨
    (lenZ bs = (lenR bs + 3, 0) ∧ 1 ≤ lenR bs ∧ lenR bs ≤ 4001 ∧ lenR bs + 3 ≤ bs.length ∧
      getR bs = if bs.getD (lenR bs + 2) 0 ≠ 0 ∧ sumI (bs.take (lenR bs + 3)) % 256 ≠ 0 then errR 4 else ⟨bs.getD 0 0, (bs.drop 3).take (lenR bs - 1), lenR bs + 3, 0⟩) := by
  unfold lenZ getR
  by_cases h1 : bs.length < 3
  · rw [if_pos h1, if_pos h1]; exact .inl ⟨2, by decide, rfl, rfl⟩
  rw [if_neg h1, if_neg h1]
  by_cases h2 : lenR bs = 0
  · rw [if_pos h2, if_pos h2]; exact .inl ⟨3, by decide, rfl, rfl⟩
  rw [if_neg h2, if_neg h2]
  by_cases h3 : 4001 < lenR bs
  · rw [if_pos h3, if_pos h3]; exact .inl ⟨8, by decide, rfl, rfl⟩
  rw [if_neg h3, if_neg h3]
  by_cases h4 : bs.length < lenR bs + 3
  · rw [if_pos h4, if_pos h4]; exact .inl ⟨2, by decide, rfl, rfl⟩
  rw [if_neg h4, if_neg h4]
  exact .inr ⟨rfl, by omega, by omega, by omega, rfl⟩
set_option maxHeartbeats 1000000 in
theorem reclength_any {w0 : World} {v : Value} {bs : List Int} (h : SrcW w0 v bs) :
    Calls Try.prog 17 #[v] w0 fun e w' => e = .returned (.tuple #[.int .i64 ((lenZ bs).1 : Nat), .int .i64 (lenZ bs).2]) ∧ Below w0.heap.size w0 w' := by
  have hR := Own.start w0
  by_cases h1 : bs.length < 3
  · have HV : Hid (lenZ bs = (0, 2)) := Lib.hid (by unfold lenZ; rw [if_pos h1])
    have h1' : (bs.length : Int) < 3 := by omega
    go_enter Try.func17, Try.ntmps17
    go_wp2_with (first
    | ((with_reducible apply q_ls hR); exact rfl; (with_reducible apply t_lenW Try.underlying22); (apply EvC.now; exact rfl); exact h; (simp only [List.set_cons_succ, List.set_cons_zero]; exact rfl); clear hR; intro w hR))
    go_ret2
    exact ⟨by rw [HV.out]; rfl, hR.below⟩
  · obtain ⟨x, hx⟩ : ∃ x, bs[1]? = some x := ⟨_, List.getElem?_eq_getElem (by omega)⟩
    obtain ⟨y, hy⟩ : ∃ y, bs[2]? = some y := ⟨_, List.getElem?_eq_getElem (by omega)⟩
    have hbx := h.ok.at hx
    have hby := h.ok.at hy
    obtain ⟨z, hz⟩ : ∃ z, lenR bs = z := ⟨_, rfl⟩
    have hzv : (z : Int) = y * 256 + x := by
      rw [← hz]; unfold lenR
      rw [List.getD_eq_getElem?_getD, List.getD_eq_getElem?_getD, hx, hy]
      simp only [Option.getD_some]; omega
    obtain ⟨a, cap, rfl, hc1⟩ := h.el hx
    have hc2 : w0.cell? (a.add 2) = some (.int .u8 y) := by
      obtain ⟨a', cap', he, hc⟩ := h.el hy
      injection he with he _ _
      injection he with he
      rw [he]; exact hc
    have HC1 := Lib.hid hc1
    have HC2 := Lib.hid hc2
    have HZ : Hid (IntKind.i64.wrap (y * 256 + x) = (z : Int)) := Lib.hid (by rw [hzv]; exact IntWalk.i64_in _ (by omega))
    have hn1 : ¬ (bs.length : Int) < 3 := by omega
    have hn2 : ((3 : Nat) : Int) ≤ (bs.length : Int) := by omega
    have HV : Hid (lenZ bs = if z = 0 then (0, 3) else if 4001 < z then (0, 8) else if bs.length < z + 3 then (0, 2) else (z + 3, 0)) := Lib.hid (by unfold lenZ; rw [if_neg h1, hz])
    have hz2 : z ≤ 65535 := by omega
    clear hc1 hc2 hx hy hz hzv
    go_enter Try.func17, Try.ntmps17
    go_upto_region 3 with (first
    | ((with_reducible apply q_ls hR); exact rfl; (with_reducible apply t_lenW Try.underlying22); (apply EvC.now; exact rfl); exact h; (simp only [List.set_cons_succ, List.set_cons_zero]; exact rfl); clear hR; intro w hR))
    refine wp_region_rows hR [0, 1, 2, 3, 4, 5, 6, 7, 8] 0 (by kernel_rfl) (by kernel_rfl) (by kernel_rfl) rfl ?_
    clear hR; intro hR
    repeat (refine wpT_step rfl ?_; first
    | ((first | (with_reducible apply q_pl) | ((with_reducible apply q_gd); (first | (apply GdBy.gt; exact rfl; exact rfl) | (apply GdBy.gf; exact rfl; exact rfl) | (apply GdBy.t; exact rfl; exact rfl) | (apply GdBy.f; exact rfl; exact rfl)))); (with_reducible apply t_six Try.underlying22 iByteQ); (first | (apply EvC.gv; exact rfl; (with_reducible first | exact Imp.refl _ | (apply Imp.left; exact Imp.refl _) | (apply Imp.right; exact Imp.refl _) | (apply Imp.left; apply Imp.left; exact Imp.refl _))) | (apply EvC.now; exact rfl) | exact rfl | (with_reducible exact EvAll.nil) | (focus (repeat (first | apply EvAll.cons | exact EvAll.nil | (apply EvC.gv; exact rfl; (with_reducible first | exact Imp.refl _ | (apply Imp.left; exact Imp.refl _) | (apply Imp.right; exact Imp.refl _) | (apply Imp.left; apply Imp.left; exact Imp.refl _))) | (apply EvC.now; exact rfl))); done) | (exact ext_recQ _ _) | (focus (repeat (first | apply List.Mem.head | apply List.Mem.tail | apply List.mem_append_right)))); (first | (apply EvC.gv; exact rfl; (with_reducible first | exact Imp.refl _ | (apply Imp.left; exact Imp.refl _) | (apply Imp.right; exact Imp.refl _) | (apply Imp.left; apply Imp.left; exact Imp.refl _))) | (apply EvC.now; exact rfl) | exact rfl | (with_reducible exact EvAll.nil) | (focus (repeat (first | apply EvAll.cons | exact EvAll.nil | (apply EvC.gv; exact rfl; (with_reducible first | exact Imp.refl _ | (apply Imp.left; exact Imp.refl _) | (apply Imp.right; exact Imp.refl _) | (apply Imp.left; apply Imp.left; exact Imp.refl _))) | (apply EvC.now; exact rfl))); done) | (exact ext_recQ _ _) | (focus (repeat (first | apply List.Mem.head | apply List.Mem.tail | apply List.mem_append_right)))); (constructor <;> omega); (simp only [List.set_cons_succ, List.set_cons_zero]; exact rfl))
    | ((first | (with_reducible apply q_pl) | ((with_reducible apply q_gd); (first | (apply GdBy.gt; exact rfl; exact rfl) | (apply GdBy.gf; exact rfl; exact rfl) | (apply GdBy.t; exact rfl; exact rfl) | (apply GdBy.f; exact rfl; exact rfl)))); (with_reducible apply t_oldCell tByteR); (first | (apply EvC.gv; exact rfl; (with_reducible first | exact Imp.refl _ | (apply Imp.left; exact Imp.refl _) | (apply Imp.right; exact Imp.refl _) | (apply Imp.left; apply Imp.left; exact Imp.refl _))) | (apply EvC.now; exact rfl) | exact rfl | (with_reducible exact EvAll.nil) | (focus (repeat (first | apply EvAll.cons | exact EvAll.nil | (apply EvC.gv; exact rfl; (with_reducible first | exact Imp.refl _ | (apply Imp.left; exact Imp.refl _) | (apply Imp.right; exact Imp.refl _) | (apply Imp.left; apply Imp.left; exact Imp.refl _))) | (apply EvC.now; exact rfl))); done) | (exact ext_recQ _ _) | (focus (repeat (first | apply List.Mem.head | apply List.Mem.tail | apply List.mem_append_right)))); (first | exact HC1.out | exact HC2.out | (simpa using HC1.out) | (simpa using HC2.out)); (simp only [List.set_cons_succ, List.set_cons_zero]; exact rfl))
    | ((first | (with_reducible apply q_pl) | ((with_reducible apply q_gd); (first | (apply GdBy.gt; exact rfl; exact rfl) | (apply GdBy.gf; exact rfl; exact rfl) | (apply GdBy.t; exact rfl; exact rfl) | (apply GdBy.f; exact rfl; exact rfl)))); (with_reducible apply t_call Try.call20); (first | (apply EvC.gv; exact rfl; (with_reducible first | exact Imp.refl _ | (apply Imp.left; exact Imp.refl _) | (apply Imp.right; exact Imp.refl _) | (apply Imp.left; apply Imp.left; exact Imp.refl _))) | (apply EvC.now; exact rfl) | exact rfl | (with_reducible exact EvAll.nil) | (focus (repeat (first | apply EvAll.cons | exact EvAll.nil | (apply EvC.gv; exact rfl; (with_reducible first | exact Imp.refl _ | (apply Imp.left; exact Imp.refl _) | (apply Imp.right; exact Imp.refl _) | (apply Imp.left; apply Imp.left; exact Imp.refl _))) | (apply EvC.now; exact rfl))); done) | (exact ext_recQ _ _) | (focus (repeat (first | apply List.Mem.head | apply List.Mem.tail | apply List.mem_append_right)))); (intro hcc w hC; exact tame_same (wordR_any _ _ _ (by omega) (by omega) (by omega) (by omega)) hC); (simp only [List.set_cons_succ, List.set_cons_zero]; exact rfl))
    | ((first | (with_reducible apply q_pl) | ((with_reducible apply q_gd); (first | (apply GdBy.gt; exact rfl; exact rfl) | (apply GdBy.gf; exact rfl; exact rfl) | (apply GdBy.t; exact rfl; exact rfl) | (apply GdBy.f; exact rfl; exact rfl)))); (with_reducible apply t_conv Try.underlying48 Try.underlying3); (first | (apply EvC.gv; exact rfl; (with_reducible first | exact Imp.refl _ | (apply Imp.left; exact Imp.refl _) | (apply Imp.right; exact Imp.refl _) | (apply Imp.left; apply Imp.left; exact Imp.refl _))) | (apply EvC.now; exact rfl) | exact rfl | (with_reducible exact EvAll.nil) | (focus (repeat (first | apply EvAll.cons | exact EvAll.nil | (apply EvC.gv; exact rfl; (with_reducible first | exact Imp.refl _ | (apply Imp.left; exact Imp.refl _) | (apply Imp.right; exact Imp.refl _) | (apply Imp.left; apply Imp.left; exact Imp.refl _))) | (apply EvC.now; exact rfl))); done) | (exact ext_recQ _ _) | (focus (repeat (first | apply List.Mem.head | apply List.Mem.tail | apply List.mem_append_right)))); (exact HZ.out); (simp only [List.set_cons_succ, List.set_cons_zero]; exact rfl))
    | ((first | (with_reducible apply q_pl) | ((with_reducible apply q_gd); (first | (apply GdBy.gt; exact rfl; exact rfl) | (apply GdBy.gf; exact rfl; exact rfl) | (apply GdBy.t; exact rfl; exact rfl) | (apply GdBy.f; exact rfl; exact rfl)))); (first | ((with_reducible first | apply t_move | apply t_assign | apply t_and | apply t_or | apply t_cmp | apply t_not | apply t_addr (fRec _ (by decide)) | apply t_one tByteR | apply t_one tSlR | apply t_one tIntR | apply t_part tRec) <;> (first | (apply EvC.gv; exact rfl; (with_reducible first | exact Imp.refl _ | (apply Imp.left; exact Imp.refl _) | (apply Imp.right; exact Imp.refl _) | (apply Imp.left; apply Imp.left; exact Imp.refl _))) | (apply EvC.now; exact rfl) | exact rfl | (with_reducible exact EvAll.nil) | (focus (repeat (first | apply EvAll.cons | exact EvAll.nil | (apply EvC.gv; exact rfl; (with_reducible first | exact Imp.refl _ | (apply Imp.left; exact Imp.refl _) | (apply Imp.right; exact Imp.refl _) | (apply Imp.left; apply Imp.left; exact Imp.refl _))) | (apply EvC.now; exact rfl))); done) | (exact ext_recQ _ _) | (focus (repeat (first | apply List.Mem.head | apply List.Mem.tail | apply List.mem_append_right)))))); (simp only [List.set_cons_succ, List.set_cons_zero]; exact rfl)))
    refine wpT_nil ?_
    refine wpG_end hR (by kernel_rfl) ?_
    clear hR; intro w hR
    have hlb : bs.length ≤ cap := by
      rcases h.way with ⟨h1, _⟩ | ⟨a', cap', h1, h2, _⟩
      · exact nomatch h1
      · injection h1 with _ _ h1; omega
    by_cases hz0 : z = 0
    · have HV2 : Hid (lenZ bs = (0, 3)) := Lib.hid (by rw [HV.out, if_pos hz0])
      clear HV
      subst hz0
      clear HZ HC1 HC2
      go_wp2_with fail
      go_ret2
      exact ⟨by rw [HV2.out]; rfl, hR.below⟩
    have hz0' : ¬ (z : Int) = 0 := by omega
    by_cases hz1 : 4001 < z
    · have hz1' : (4001 : Int) < (z : Int) := by omega
      clear HZ HC1 HC2
      go_wp2_with fail
      go_ret2
      exact ⟨by rw [HV.out, if_neg hz0, if_pos hz1]; rfl, hR.below⟩
    have hz1' : ¬ (4001 : Int) < (z : Int) := by omega
    by_cases hz3 : bs.length < z + 3
    · have hz3' : (bs.length : Int) < 3 + (z : Int) := by omega
      clear HZ HC1 HC2
      go_wp2_with (first
    | ((with_reducible apply q_ls hR); exact rfl; (with_reducible apply t_lenW Try.underlying22); (apply EvC.now; exact rfl); exact h; (simp only [List.set_cons_succ, List.set_cons_zero]; exact rfl); clear hR; intro w hR))
      go_ret2
      exact ⟨by rw [HV.out, if_neg hz0, if_neg hz1, if_pos hz3]; rfl, hR.below⟩
    · have hz3' : ¬ (bs.length : Int) < 3 + (z : Int) := by omega
      clear HZ HC1 HC2
      go_wp2_with (first
    | ((with_reducible apply q_ls hR); exact rfl; (with_reducible apply t_lenW Try.underlying22); (apply EvC.now; exact rfl); exact h; (simp only [List.set_cons_succ, List.set_cons_zero]; exact rfl); clear hR; intro w hR))
      go_ret2
      rw [HV.out, if_neg hz0, if_neg hz1, if_neg hz3]
      exact ⟨ret_int2R (show (3 : Int) + (z : Int) = ((z + 3 : Nat) : Int) by omega) rfl, hR.below⟩
/-! ### Get -/
theorem sumN_zero (ns : List Int) : sumN ns = 0 ↔ sumI ns % 256 = 0 := by unfold sumN; omega
set_option maxHeartbeats 1000000 in
theorem recget_own {w0 : World} {v : Value} {bs : List Int} (h : SrcW w0 v bs) (hl : bs.length ≤ 1000000) :
    Calls Try.prog 8 #[v] w0 fun e w' => ∃ s vb, e = .returned (.tuple #[.agg #[.int .u8 (getR bs).k, vb], .int .i64 ((getR bs).n : Nat), .int .i64 (getR bs).e]) ∧ Own w0 w' s ∧ SrcR s vb (getR bs).b := by
  have hR := Own.start w0
  rcases len_ways bs with ⟨e, he, hz, hg⟩ | ⟨hz, hz1, hz2, hz3, hg⟩
  · have HZ := Lib.hid hz
    have HG := Lib.hid hg
    clear hz hg
    go_enter Try.func8, Try.ntmps8
    go_wp2_with (first
    | ((with_reducible apply wpList_make hR zRec); exact rfl; clear hR; intro g w hR; simp only [List.set_cons_succ, List.set_cons_zero])
    | ((with_reducible apply wpList_put hR tRec); exact rfl; exact rfl; exact rfl; (focus (repeat (first | apply List.Mem.head | apply List.Mem.tail | apply List.mem_append_right))); exact put_rec _ _ _ _; exact rfl; simp; exact one_rec _ (SrcW.none w0); (focus (repeat (first | apply Upd.head | apply Upd.tail))); clear hR; intro w hR)
    | ((with_reducible apply wpList_built); exact rfl; exact rfl; exact bRecZ; (simp only [List.set_cons_succ, List.set_cons_zero]; exact rfl))
    | (go_at_call 17; refine (reclength_any (h.own hR)).mono ?_; rw [HZ.out]; rintro e2 w' ⟨rfl, hb⟩; replace hR := hR.grow hb; clear hb)
    | ((with_reducible apply q_ls hR); exact rfl; ((with_reducible first | apply t_addr (fRec _ (by decide)) | apply t_one tByteR | apply t_one tSlR | apply t_one tIntR | apply t_part tRec) <;> (first | (apply EvC.gv; exact rfl; (with_reducible first | exact Imp.refl _ | (apply Imp.left; exact Imp.refl _) | (apply Imp.right; exact Imp.refl _) | (apply Imp.left; apply Imp.left; exact Imp.refl _))) | (apply EvC.now; exact rfl) | exact rfl | (with_reducible exact EvAll.nil) | (focus (repeat (first | apply EvAll.cons | exact EvAll.nil | (apply EvC.gv; exact rfl; (with_reducible first | exact Imp.refl _ | (apply Imp.left; exact Imp.refl _) | (apply Imp.right; exact Imp.refl _) | (apply Imp.left; apply Imp.left; exact Imp.refl _))) | (apply EvC.now; exact rfl))); done) | (exact ext_recQ _ _) | (focus (repeat (first | apply List.Mem.head | apply List.Mem.tail | apply List.mem_append_right))))); (simp only [List.set_cons_succ, List.set_cons_zero]; exact rfl); clear hR; intro w hR))
    (try simp only [Exit.inBlock, Exit.then])
    exact post_row_two hR rfl (by rfl) (by rfl) (by rfl) (by (focus (repeat (first | apply List.Mem.head | apply List.Mem.tail | apply List.mem_append_right)))) Try.underlying26 rfl iRec (by rfl) (by rfl) ⟨_, _, by rw [HG.out]; rfl, hR, by rw [HG.out]; exact fun _ w _ _ _ => SrcW.none w⟩
  · obtain ⟨n, hn⟩ : ∃ n, lenR bs + 3 = n := ⟨_, rfl⟩
    obtain ⟨x, hx⟩ : ∃ x, bs[lenR bs + 2]? = some x := ⟨_, List.getElem?_eq_getElem (by omega)⟩
    obtain ⟨y, hy⟩ : ∃ y, bs[0]? = some y := ⟨_, List.getElem?_eq_getElem (by omega)⟩
    have hbx := h.ok.at hx
    have hby := h.ok.at hy
    rw [List.getD_eq_getElem?_getD, List.getD_eq_getElem?_getD, hx, hy, hn] at hg
    simp only [Option.getD_some] at hg
    rw [hn] at hz hz3
    have hg' : getR bs = if (x ≠ 0 ∧ ¬ sumN (bs.take n) = 0) then errR 4 else ⟨y, (bs.drop 3).take (n - 4), n, 0⟩ := by
      rw [hg, show lenR bs - 1 = n - 4 by omega]
      simp only [sumN_zero, ne_eq]
    have hcut : (bs.take (n - 1)).drop 3 = (bs.drop 3).take (n - 4) := by rw [List.drop_take, show n - 1 - 3 = n - 4 by omega]
    obtain ⟨a, cap, rfl, hc1⟩ := h.el hx
    have hc2 : w0.cell? (a.add 0) = some (.int .u8 y) := by
      obtain ⟨a', cap', he, hc⟩ := h.el hy
      injection he with he _ _
      injection he with he
      rw [he]; exact hc
    rw [show lenR bs + 2 = n - 1 by omega] at hc1
    have hn1 : 4 ≤ n := by omega
    have hn2 : n ≤ 4004 := by omega
    have HC1 := Lib.hid hc1
    have HC2 := Lib.hid hc2
    have HZ := Lib.hid hz
    have HG := Lib.hid hg'
    have HCUT := Lib.hid hcut
    have hsb := sumN_bd (bs.take n)
    clear hc1 hc2 hx hy hz hg hg' hn hz1 hz2 hcut
    go_enter Try.func8, Try.ntmps8
    go_upto_region 5 with (first
    | ((with_reducible apply wpList_make hR zRec); exact rfl; clear hR; intro g w hR; simp only [List.set_cons_succ, List.set_cons_zero])
    | (go_at_call 17; refine (reclength_any (h.own hR)).mono ?_; rw [HZ.out]; rintro e2 w' ⟨rfl, hb⟩; replace hR := hR.grow hb; clear hb)
    | ((with_reducible apply q_ls hR); exact rfl; ((with_reducible first | apply t_addr (fRec _ (by decide)) | apply t_one tByteR | apply t_one tSlR | apply t_one tIntR | apply t_part tRec) <;> (first | (apply EvC.gv; exact rfl; (with_reducible first | exact Imp.refl _ | (apply Imp.left; exact Imp.refl _) | (apply Imp.right; exact Imp.refl _) | (apply Imp.left; apply Imp.left; exact Imp.refl _))) | (apply EvC.now; exact rfl) | exact rfl | (with_reducible exact EvAll.nil) | (focus (repeat (first | apply EvAll.cons | exact EvAll.nil | (apply EvC.gv; exact rfl; (with_reducible first | exact Imp.refl _ | (apply Imp.left; exact Imp.refl _) | (apply Imp.right; exact Imp.refl _) | (apply Imp.left; apply Imp.left; exact Imp.refl _))) | (apply EvC.now; exact rfl))); done) | (exact ext_recQ _ _) | (focus (repeat (first | apply List.Mem.head | apply List.Mem.tail | apply List.mem_append_right))))); (simp only [List.set_cons_succ, List.set_cons_zero]; exact rfl); clear hR; intro w hR))
    refine wp_region_tame hR [0, 1, 2, 3, 4, 5, 6, 7, 8, 9, 10, 11] rfl ?_
    repeat (refine wpT_step rfl ?_; first
    | ((first | (with_reducible apply q_pl) | ((with_reducible apply q_gd); (first | (apply GdBy.gt; exact rfl; exact rfl) | (apply GdBy.gf; exact rfl; exact rfl) | (apply GdBy.t; exact rfl; exact rfl) | (apply GdBy.f; exact rfl; exact rfl)))); (with_reducible apply t_six Try.underlying22 iByteQ); (first | (apply EvC.gv; exact rfl; (with_reducible first | exact Imp.refl _ | (apply Imp.left; exact Imp.refl _) | (apply Imp.right; exact Imp.refl _) | (apply Imp.left; apply Imp.left; exact Imp.refl _))) | (apply EvC.now; exact rfl) | exact rfl | (with_reducible exact EvAll.nil) | (focus (repeat (first | apply EvAll.cons | exact EvAll.nil | (apply EvC.gv; exact rfl; (with_reducible first | exact Imp.refl _ | (apply Imp.left; exact Imp.refl _) | (apply Imp.right; exact Imp.refl _) | (apply Imp.left; apply Imp.left; exact Imp.refl _))) | (apply EvC.now; exact rfl))); done) | (exact ext_recQ _ _) | (focus (repeat (first | apply List.Mem.head | apply List.Mem.tail | apply List.mem_append_right)))); (first | (apply EvC.gv; exact rfl; (with_reducible first | exact Imp.refl _ | (apply Imp.left; exact Imp.refl _) | (apply Imp.right; exact Imp.refl _) | (apply Imp.left; apply Imp.left; exact Imp.refl _))) | (apply EvC.now; exact rfl) | exact rfl | (with_reducible exact EvAll.nil) | (focus (repeat (first | apply EvAll.cons | exact EvAll.nil | (apply EvC.gv; exact rfl; (with_reducible first | exact Imp.refl _ | (apply Imp.left; exact Imp.refl _) | (apply Imp.right; exact Imp.refl _) | (apply Imp.left; apply Imp.left; exact Imp.refl _))) | (apply EvC.now; exact rfl))); done) | (exact ext_recQ _ _) | (focus (repeat (first | apply List.Mem.head | apply List.Mem.tail | apply List.mem_append_right)))); (constructor <;> omega); (simp only [List.set_cons_succ, List.set_cons_zero]; exact rfl))
    | ((first | (with_reducible apply q_pl) | ((with_reducible apply q_gd); (first | (apply GdBy.gt; exact rfl; exact rfl) | (apply GdBy.gf; exact rfl; exact rfl) | (apply GdBy.t; exact rfl; exact rfl) | (apply GdBy.f; exact rfl; exact rfl)))); (with_reducible apply t_oldCell tByteR); (first | (apply EvC.gv; exact rfl; (with_reducible first | exact Imp.refl _ | (apply Imp.left; exact Imp.refl _) | (apply Imp.right; exact Imp.refl _) | (apply Imp.left; apply Imp.left; exact Imp.refl _))) | (apply EvC.now; exact rfl) | exact rfl | (with_reducible exact EvAll.nil) | (focus (repeat (first | apply EvAll.cons | exact EvAll.nil | (apply EvC.gv; exact rfl; (with_reducible first | exact Imp.refl _ | (apply Imp.left; exact Imp.refl _) | (apply Imp.right; exact Imp.refl _) | (apply Imp.left; apply Imp.left; exact Imp.refl _))) | (apply EvC.now; exact rfl))); done) | (exact ext_recQ _ _) | (focus (repeat (first | apply List.Mem.head | apply List.Mem.tail | apply List.mem_append_right)))); (first | exact HC1.out | (simpa using HC1.out)); (simp only [List.set_cons_succ, List.set_cons_zero]; exact rfl))
    | ((first | (with_reducible apply q_pl) | ((with_reducible apply q_gd); (first | (apply GdBy.gt; exact rfl; exact rfl) | (apply GdBy.gf; exact rfl; exact rfl) | (apply GdBy.t; exact rfl; exact rfl) | (apply GdBy.f; exact rfl; exact rfl)))); (with_reducible apply t_cutH tBytesN h (h := n)); (first | (apply EvC.gv; exact rfl; (with_reducible first | exact Imp.refl _ | (apply Imp.left; exact Imp.refl _) | (apply Imp.right; exact Imp.refl _) | (apply Imp.left; apply Imp.left; exact Imp.refl _))) | (apply EvC.now; exact rfl) | exact rfl | (with_reducible exact EvAll.nil) | (focus (repeat (first | apply EvAll.cons | exact EvAll.nil | (apply EvC.gv; exact rfl; (with_reducible first | exact Imp.refl _ | (apply Imp.left; exact Imp.refl _) | (apply Imp.right; exact Imp.refl _) | (apply Imp.left; apply Imp.left; exact Imp.refl _))) | (apply EvC.now; exact rfl))); done) | (exact ext_recQ _ _) | (focus (repeat (first | apply List.Mem.head | apply List.Mem.tail | apply List.mem_append_right)))); (first | (apply EvC.gv; exact rfl; (with_reducible first | exact Imp.refl _ | (apply Imp.left; exact Imp.refl _) | (apply Imp.right; exact Imp.refl _) | (apply Imp.left; apply Imp.left; exact Imp.refl _))) | (apply EvC.now; exact rfl) | exact rfl | (with_reducible exact EvAll.nil) | (focus (repeat (first | apply EvAll.cons | exact EvAll.nil | (apply EvC.gv; exact rfl; (with_reducible first | exact Imp.refl _ | (apply Imp.left; exact Imp.refl _) | (apply Imp.right; exact Imp.refl _) | (apply Imp.left; apply Imp.left; exact Imp.refl _))) | (apply EvC.now; exact rfl))); done) | (exact ext_recQ _ _) | (focus (repeat (first | apply List.Mem.head | apply List.Mem.tail | apply List.mem_append_right)))); exact rfl; omega; (simp only [List.set_cons_succ, List.set_cons_zero]; exact rfl))
    | ((first | (with_reducible apply q_pl) | ((with_reducible apply q_gd); (first | (apply GdBy.gt; exact rfl; exact rfl) | (apply GdBy.gf; exact rfl; exact rfl) | (apply GdBy.t; exact rfl; exact rfl) | (apply GdBy.f; exact rfl; exact rfl)))); (with_reducible apply t_call Try.call10); (first | (apply EvC.gv; exact rfl; (with_reducible first | exact Imp.refl _ | (apply Imp.left; exact Imp.refl _) | (apply Imp.right; exact Imp.refl _) | (apply Imp.left; apply Imp.left; exact Imp.refl _))) | (apply EvC.now; exact rfl) | exact rfl | (with_reducible exact EvAll.nil) | (focus (repeat (first | apply EvAll.cons | exact EvAll.nil | (apply EvC.gv; exact rfl; (with_reducible first | exact Imp.refl _ | (apply Imp.left; exact Imp.refl _) | (apply Imp.right; exact Imp.refl _) | (apply Imp.left; apply Imp.left; exact Imp.refl _))) | (apply EvC.now; exact rfl))); done) | (exact ext_recQ _ _) | (focus (repeat (first | apply List.Mem.head | apply List.Mem.tail | apply List.mem_append_right)))); (intro hcc w hC; exact tame_below (recsum_any ((h.first n (by omega)).own hC) (by rw [List.length_take]; omega)) hC); (simp only [List.set_cons_succ, List.set_cons_zero]; exact rfl))
    | ((first | (with_reducible apply q_pl) | ((with_reducible apply q_gd); (first | (apply GdBy.gt; exact rfl; exact rfl) | (apply GdBy.gf; exact rfl; exact rfl) | (apply GdBy.t; exact rfl; exact rfl) | (apply GdBy.f; exact rfl; exact rfl)))); (first | ((with_reducible first | apply t_move | apply t_assign | apply t_and | apply t_or | apply t_cmp | apply t_not | apply t_addr (fRec _ (by decide)) | apply t_one tByteR | apply t_one tSlR | apply t_one tIntR | apply t_part tRec) <;> (first | (apply EvC.gv; exact rfl; (with_reducible first | exact Imp.refl _ | (apply Imp.left; exact Imp.refl _) | (apply Imp.right; exact Imp.refl _) | (apply Imp.left; apply Imp.left; exact Imp.refl _))) | (apply EvC.now; exact rfl) | exact rfl | (with_reducible exact EvAll.nil) | (focus (repeat (first | apply EvAll.cons | exact EvAll.nil | (apply EvC.gv; exact rfl; (with_reducible first | exact Imp.refl _ | (apply Imp.left; exact Imp.refl _) | (apply Imp.right; exact Imp.refl _) | (apply Imp.left; apply Imp.left; exact Imp.refl _))) | (apply EvC.now; exact rfl))); done) | (exact ext_recQ _ _) | (focus (repeat (first | apply List.Mem.head | apply List.Mem.tail | apply List.mem_append_right)))))); (simp only [List.set_cons_succ, List.set_cons_zero]; exact rfl))
    | ((with_reducible apply q_gd); (first | (apply GdBy.gt; exact rfl; exact rfl) | (apply GdBy.gf; exact rfl; exact rfl) | (apply GdBy.t; exact rfl; exact rfl) | (apply GdBy.f; exact rfl; exact rfl)); ((with_reducible apply t_num) <;> (first | (apply EvC.gv; exact rfl; (with_reducible first | exact Imp.refl _ | (apply Imp.left; exact Imp.refl _) | (apply Imp.right; exact Imp.refl _) | (apply Imp.left; apply Imp.left; exact Imp.refl _))) | (apply EvC.now; exact rfl) | exact rfl | (with_reducible exact EvAll.nil) | (focus (repeat (first | apply EvAll.cons | exact EvAll.nil | (apply EvC.gv; exact rfl; (with_reducible first | exact Imp.refl _ | (apply Imp.left; exact Imp.refl _) | (apply Imp.right; exact Imp.refl _) | (apply Imp.left; apply Imp.left; exact Imp.refl _))) | (apply EvC.now; exact rfl))); done) | (exact ext_recQ _ _) | (focus (repeat (first | apply List.Mem.head | apply List.Mem.tail | apply List.mem_append_right))))); (simp only [List.set_cons_succ, List.set_cons_zero]; exact rfl))
    | ((with_reducible apply wpT1_gpure); (first | (apply GdBy.gt; exact rfl; exact rfl) | (apply GdBy.gf; exact rfl; exact rfl) | (apply GdBy.t; exact rfl; exact rfl) | (apply GdBy.f; exact rfl; exact rfl)); intro K hK; go_simp; refine hK _ ?_; clear hK K; simp only [List.set_cons_succ, List.set_cons_zero])
    | ((with_reducible apply wpT1_pure); exact rfl; intro K hK; go_simp; refine hK _ ?_; clear hK K; simp only [List.set_cons_succ, List.set_cons_zero]))
    refine wpT_nil ?_
    clear hR; intro w hR
    go_upto_if 30 with fail
    rcases Bool.eq_false_or_eq_true (x != 0 && sumN (bs.take n) != 0) with hq | hq
    · have HB : Hid (getR bs = errR 4) := Lib.hid (by
        rw [HG.out, if_pos]
        simpa using hq)
      rw [hq]
      refine wp_cond_at (nm := true) rfl rfl (fun _ => ?_) (fun h => absurd h (by decide))
      clear hq
      go_wp2_with (first
    | ((with_reducible apply wpList_put hR tRec); exact rfl; exact rfl; exact rfl; (focus (repeat (first | apply List.Mem.head | apply List.Mem.tail | apply List.mem_append_right))); exact put_rec _ _ _ _; exact rfl; simp; exact one_rec _ (SrcW.none w0); (focus (repeat (first | apply Upd.head | apply Upd.tail))); clear hR; intro w hR)
    | ((with_reducible apply wpList_built); exact rfl; exact rfl; exact bRecZ; (simp only [List.set_cons_succ, List.set_cons_zero]; exact rfl))
    | ((with_reducible apply q_ls hR); exact rfl; ((with_reducible first | apply t_addr (fRec _ (by decide)) | apply t_one tByteR | apply t_one tSlR | apply t_one tIntR | apply t_part tRec) <;> (first | (apply EvC.gv; exact rfl; (with_reducible first | exact Imp.refl _ | (apply Imp.left; exact Imp.refl _) | (apply Imp.right; exact Imp.refl _) | (apply Imp.left; apply Imp.left; exact Imp.refl _))) | (apply EvC.now; exact rfl) | exact rfl | (with_reducible exact EvAll.nil) | (focus (repeat (first | apply EvAll.cons | exact EvAll.nil | (apply EvC.gv; exact rfl; (with_reducible first | exact Imp.refl _ | (apply Imp.left; exact Imp.refl _) | (apply Imp.right; exact Imp.refl _) | (apply Imp.left; apply Imp.left; exact Imp.refl _))) | (apply EvC.now; exact rfl))); done) | (exact ext_recQ _ _) | (focus (repeat (first | apply List.Mem.head | apply List.Mem.tail | apply List.mem_append_right))))); (simp only [List.set_cons_succ, List.set_cons_zero]; exact rfl); clear hR; intro w hR))
      (try simp only [Exit.inBlock, Exit.then])
      exact post_row_two hR rfl (by rfl) (by rfl) (by rfl) (by (focus (repeat (first | apply List.Mem.head | apply List.Mem.tail | apply List.mem_append_right)))) Try.underlying26 rfl iRec (by rfl) (by rfl) ⟨_, _, by rw [HB.out]; rfl, hR, by rw [HB.out]; exact fun _ w _ _ _ => SrcW.none w⟩
    · have HB : Hid (getR bs = ⟨y, (bs.drop 3).take (n - 4), n, 0⟩) := Lib.hid (by
        rw [HG.out, if_neg]
        simpa using hq)
      rw [hq]
      refine wp_cond_at (nm := false) rfl rfl (fun h => absurd h (by decide)) (fun _ => ?_)
      clear hq HG
      have hcl := (h.cut 3 (n - 1) (by omega) (by omega))
      rw [HCUT.out] at hcl
      have hcn : ((bs.drop 3).take (n - 4)).length ≤ 4000 := by rw [List.length_take]; omega
      obtain ⟨cs, hcs⟩ : ∃ cs, (bs.drop 3).take (n - 4) = cs := ⟨_, rfl⟩
      rw [hcs] at hcl hcn HB
      clear hcs HCUT
      go_upto_region 7 with fail
      refine wp_region_some hR [] (List.nil_sublist _) [0, 1, 2, 3, 4, 5, 8] 5 (by kernel_rfl) (by kernel_rfl) (by kernel_rfl) rfl ?_
      clear hR; intro hR
      repeat (refine wpT_step rfl ?_; first
    | ((first | (with_reducible apply q_pl) | ((with_reducible apply q_gd); (first | (apply GdBy.gt; exact rfl; exact rfl) | (apply GdBy.gf; exact rfl; exact rfl) | (apply GdBy.t; exact rfl; exact rfl) | (apply GdBy.f; exact rfl; exact rfl)))); (with_reducible apply t_six Try.underlying22 iByteQ); (first | (apply EvC.gv; exact rfl; (with_reducible first | exact Imp.refl _ | (apply Imp.left; exact Imp.refl _) | (apply Imp.right; exact Imp.refl _) | (apply Imp.left; apply Imp.left; exact Imp.refl _))) | (apply EvC.now; exact rfl) | exact rfl | (with_reducible exact EvAll.nil) | (focus (repeat (first | apply EvAll.cons | exact EvAll.nil | (apply EvC.gv; exact rfl; (with_reducible first | exact Imp.refl _ | (apply Imp.left; exact Imp.refl _) | (apply Imp.right; exact Imp.refl _) | (apply Imp.left; apply Imp.left; exact Imp.refl _))) | (apply EvC.now; exact rfl))); done) | (exact ext_recQ _ _) | (focus (repeat (first | apply List.Mem.head | apply List.Mem.tail | apply List.mem_append_right)))); (first | (apply EvC.gv; exact rfl; (with_reducible first | exact Imp.refl _ | (apply Imp.left; exact Imp.refl _) | (apply Imp.right; exact Imp.refl _) | (apply Imp.left; apply Imp.left; exact Imp.refl _))) | (apply EvC.now; exact rfl) | exact rfl | (with_reducible exact EvAll.nil) | (focus (repeat (first | apply EvAll.cons | exact EvAll.nil | (apply EvC.gv; exact rfl; (with_reducible first | exact Imp.refl _ | (apply Imp.left; exact Imp.refl _) | (apply Imp.right; exact Imp.refl _) | (apply Imp.left; apply Imp.left; exact Imp.refl _))) | (apply EvC.now; exact rfl))); done) | (exact ext_recQ _ _) | (focus (repeat (first | apply List.Mem.head | apply List.Mem.tail | apply List.mem_append_right)))); (constructor <;> omega); (simp only [List.set_cons_succ, List.set_cons_zero]; exact rfl))
    | ((first | (with_reducible apply q_pl) | ((with_reducible apply q_gd); (first | (apply GdBy.gt; exact rfl; exact rfl) | (apply GdBy.gf; exact rfl; exact rfl) | (apply GdBy.t; exact rfl; exact rfl) | (apply GdBy.f; exact rfl; exact rfl)))); (with_reducible apply t_oldCell tByteR); (first | (apply EvC.gv; exact rfl; (with_reducible first | exact Imp.refl _ | (apply Imp.left; exact Imp.refl _) | (apply Imp.right; exact Imp.refl _) | (apply Imp.left; apply Imp.left; exact Imp.refl _))) | (apply EvC.now; exact rfl) | exact rfl | (with_reducible exact EvAll.nil) | (focus (repeat (first | apply EvAll.cons | exact EvAll.nil | (apply EvC.gv; exact rfl; (with_reducible first | exact Imp.refl _ | (apply Imp.left; exact Imp.refl _) | (apply Imp.right; exact Imp.refl _) | (apply Imp.left; apply Imp.left; exact Imp.refl _))) | (apply EvC.now; exact rfl))); done) | (exact ext_recQ _ _) | (focus (repeat (first | apply List.Mem.head | apply List.Mem.tail | apply List.mem_append_right)))); (first | exact HC2.out | (simpa using HC2.out)); (simp only [List.set_cons_succ, List.set_cons_zero]; exact rfl))
    | ((first | (with_reducible apply q_pl) | ((with_reducible apply q_gd); (first | (apply GdBy.gt; exact rfl; exact rfl) | (apply GdBy.gf; exact rfl; exact rfl) | (apply GdBy.t; exact rfl; exact rfl) | (apply GdBy.f; exact rfl; exact rfl)))); (with_reducible apply t_cutLH tBytesN h (l := 3) (h := n - 1)); (first | (apply EvC.gv; exact rfl; (with_reducible first | exact Imp.refl _ | (apply Imp.left; exact Imp.refl _) | (apply Imp.right; exact Imp.refl _) | (apply Imp.left; apply Imp.left; exact Imp.refl _))) | (apply EvC.now; exact rfl) | exact rfl | (with_reducible exact EvAll.nil) | (focus (repeat (first | apply EvAll.cons | exact EvAll.nil | (apply EvC.gv; exact rfl; (with_reducible first | exact Imp.refl _ | (apply Imp.left; exact Imp.refl _) | (apply Imp.right; exact Imp.refl _) | (apply Imp.left; apply Imp.left; exact Imp.refl _))) | (apply EvC.now; exact rfl))); done) | (exact ext_recQ _ _) | (focus (repeat (first | apply List.Mem.head | apply List.Mem.tail | apply List.mem_append_right)))); (first | (apply EvC.gv; exact rfl; (with_reducible first | exact Imp.refl _ | (apply Imp.left; exact Imp.refl _) | (apply Imp.right; exact Imp.refl _) | (apply Imp.left; apply Imp.left; exact Imp.refl _))) | (apply EvC.now; exact rfl) | exact rfl | (with_reducible exact EvAll.nil) | (focus (repeat (first | apply EvAll.cons | exact EvAll.nil | (apply EvC.gv; exact rfl; (with_reducible first | exact Imp.refl _ | (apply Imp.left; exact Imp.refl _) | (apply Imp.right; exact Imp.refl _) | (apply Imp.left; apply Imp.left; exact Imp.refl _))) | (apply EvC.now; exact rfl))); done) | (exact ext_recQ _ _) | (focus (repeat (first | apply List.Mem.head | apply List.Mem.tail | apply List.mem_append_right)))); (first | (apply EvC.gv; exact rfl; (with_reducible first | exact Imp.refl _ | (apply Imp.left; exact Imp.refl _) | (apply Imp.right; exact Imp.refl _) | (apply Imp.left; apply Imp.left; exact Imp.refl _))) | (apply EvC.now; exact rfl) | exact rfl | (with_reducible exact EvAll.nil) | (focus (repeat (first | apply EvAll.cons | exact EvAll.nil | (apply EvC.gv; exact rfl; (with_reducible first | exact Imp.refl _ | (apply Imp.left; exact Imp.refl _) | (apply Imp.right; exact Imp.refl _) | (apply Imp.left; apply Imp.left; exact Imp.refl _))) | (apply EvC.now; exact rfl))); done) | (exact ext_recQ _ _) | (focus (repeat (first | apply List.Mem.head | apply List.Mem.tail | apply List.mem_append_right)))); exact rfl; omega; omega; omega; (simp only [List.set_cons_succ, List.set_cons_zero]; exact rfl))
    | ((first | (with_reducible apply q_pl) | ((with_reducible apply q_gd); (first | (apply GdBy.gt; exact rfl; exact rfl) | (apply GdBy.gf; exact rfl; exact rfl) | (apply GdBy.t; exact rfl; exact rfl) | (apply GdBy.f; exact rfl; exact rfl)))); (first | ((with_reducible first | apply t_move | apply t_assign | apply t_and | apply t_or | apply t_cmp | apply t_not | apply t_addr (fRec _ (by decide)) | apply t_one tByteR | apply t_one tSlR | apply t_one tIntR | apply t_part tRec) <;> (first | (apply EvC.gv; exact rfl; (with_reducible first | exact Imp.refl _ | (apply Imp.left; exact Imp.refl _) | (apply Imp.right; exact Imp.refl _) | (apply Imp.left; apply Imp.left; exact Imp.refl _))) | (apply EvC.now; exact rfl) | exact rfl | (with_reducible exact EvAll.nil) | (focus (repeat (first | apply EvAll.cons | exact EvAll.nil | (apply EvC.gv; exact rfl; (with_reducible first | exact Imp.refl _ | (apply Imp.left; exact Imp.refl _) | (apply Imp.right; exact Imp.refl _) | (apply Imp.left; apply Imp.left; exact Imp.refl _))) | (apply EvC.now; exact rfl))); done) | (exact ext_recQ _ _) | (focus (repeat (first | apply List.Mem.head | apply List.Mem.tail | apply List.mem_append_right)))))); (simp only [List.set_cons_succ, List.set_cons_zero]; exact rfl)))
      refine wpT_nil ?_
      refine wpG_appG hR (i := 6) (by kernel_rfl) tBytesB rfl rfl rfl rfl (Les.head (s := [])) (Sl.nil _ _) (fun w1 h1 => (hcl.own h1).rd) (by simp only [maxLen]; omega) (by omega) (by (focus (repeat (with_reducible first | exact List.Sublist.slnil | exact List.nil_sublist _ | exact List.Sublist.refl _ | exact List.sublist_append_right _ _ | apply List.Sublist.cons_cons | apply List.Sublist.cons | apply sub_rightR)))) ?_
      clear hR; intro s2 v2 w hR hS
      simp only [List.set_cons_succ, List.set_cons_zero]
      have hS' : Sl 5 1 s2 v2 (0 + cs.length) (cellsB cs) := hS.cast (List.nil_append _)
      refine wpG_q hR (i := 7) (by kernel_rfl) rfl rfl (t_built rfl (bRec y (hS'.src hR (fun r hr => List.mem_append_left _ hr) hcl.ok))) (by (simp only [List.set_cons_succ, List.set_cons_zero]; exact rfl)) (by (focus (repeat (with_reducible first | exact List.Sublist.slnil | exact List.nil_sublist _ | exact List.Sublist.refl _ | exact List.sublist_append_right _ _ | apply List.Sublist.cons_cons | apply List.Sublist.cons | apply sub_rightR)))) ?_
      clear hR; intro w hR
      refine wpG_put hR tRec (i := 9) (by kernel_rfl) rfl rfl rfl (List.mem_append_right _ (.head _)) (put_rec _ _ _ _) rfl (by simp) (one_rec _ (hS'.src hR (fun r hr => List.mem_append_left _ hr) hcl.ok)) (Upd.skipR _ Upd.head) (List.nil_sublist _) ?_
      clear hR; intro w hR
      refine wpG_slot hR (i := 10) (by kernel_rfl) rfl rfl (by (simp only [List.set_cons_succ, List.set_cons_zero]; exact rfl)) ?_
      clear hR; intro w hR
      refine wpG_slot hR (i := 11) (by kernel_rfl) rfl rfl (by (simp only [List.set_cons_succ, List.set_cons_zero]; exact rfl)) ?_
      clear hR; intro w hR
      refine wpG_end hR (by kernel_rfl) ?_
      clear hR; intro w hR
      go_wp2
      (try simp only [Exit.inBlock, Exit.then])
      exact post_row_two hR rfl (by rfl) (by rfl) (by rfl) (List.mem_append_right _ (.head _)) Try.underlying26 rfl iRec (by rfl) (by rfl) ⟨s2, v2, by rw [HB.out]; rfl, hR.drop (List.sublist_append_left _ _), by rw [HB.out]; exact hS'.srcR hcl.ok⟩
theorem recget_any {w : World} {v : Value} {bs : List Int} (h : SrcW w v bs) (hl : bs.length ≤ 1000000) :
    Calls Try.prog 8 #[v] w fun e w' => ∃ vb, e = .returned (.tuple #[.agg #[.int .u8 (getR bs).k, vb], .int .i64 (getR bs).n, .int .i64 (getR bs).e]) ∧ Below w.heap.size w w' ∧ SrcW w' vb (getR bs).b :=
  (recget_own h hl).mono fun e w' ⟨s, vb, h1, h2, h3⟩ => ⟨vb, h1, h2.below, h3 _ _ _ h2 fun _ h => h⟩
/-! ### All -/
theorem get_some {bs : List Int} (hb : bytesOk bs) (h : (getR bs).e = 0) : (0 ≤ (getR bs).k ∧ (getR bs).k ≤ 255) ∧ 4 ≤ (getR bs).n ∧ (getR bs).n ≤ bs.length ∧ (getR bs).b.length ≤ 4000 := by
  rcases len_ways bs with ⟨e, he, _, hg⟩ | ⟨_, h1, h2, h3, hg⟩
  · rw [hg] at h; exact absurd h he
  · rw [hg] at h ⊢
    split at h
    · exact absurd h (by decide)
    · rename_i hc
      rw [if_neg hc]
      obtain ⟨y, hy⟩ : ∃ y, bs[0]? = some y := ⟨_, List.getElem?_eq_getElem (by omega)⟩
      refine ⟨?_, by show 4 ≤ lenR bs + 3; omega, by show lenR bs + 3 ≤ _; omega, by show ((bs.drop 3).take _).length ≤ _; rw [List.length_take]; omega⟩
      show 0 ≤ bs.getD 0 0 ∧ bs.getD 0 0 ≤ 255
      rw [List.getD_eq_getElem?_getD, hy]
      exact hb.at hy
theorem allR_step {cs : List Int} (f : Nat) (h : cs ≠ []) : allR (f + 1) cs = if (getR cs).e = 0 then (((getR cs).k, (getR cs).b) :: (allR f (cs.drop (getR cs).n)).1, (allR f (cs.drop (getR cs).n)).2) else ([], (getR cs).e) := by
  cases cs with
  | nil => exact absurd rfl h
  | cons a l => rfl
theorem allR_nil (f : Nat) : allR f [] = ([], 0) := by cases f <;> rfl
theorem SrcR.mono {s X : List RowT} {v : Value} {bs : List Int} (h : SrcR s v bs) (hs : ∀ r ∈ s, r ∈ X) : SrcR X v bs := fun w0 w l hO hm => h w0 w l hO fun r hr => hm r (hs r hr)
theorem tRecsB' : SliceB Try.prog 36 26 2 32 := .of (z := .agg #[.int .u8 0, .slice none 0 0]) Try.underlying36 (by kernel_rfl) rfl (by decide)
theorem bRecsS' (k : Int) (a : Option Addr) (n c : Nat) : BuiltS Try.prog 36 1 [(0, .agg #[.int .u8 k, .slice a n c])] 26 #[.int .u8 k, .slice a n c] := ⟨fun w => by simp [go_sem]⟩
theorem bRecs1' {w : World} {v : Value} {bs : List Int} (k : Int) (h : SrcW w v bs) : BuiltS Try.prog 36 1 [(0, .agg #[.int .u8 k, v])] 26 #[.int .u8 k, v] := by
  obtain ⟨a, n, c, rfl⟩ := h.shape
  exact bRecsS' k a n c
theorem rd_rec' {w0 w : World} {l : List RowT} {g : Nat} {e : TypeId} {r : RecZ} (hR : Own w0 w l) (hm : (g, #[.int .u8 r.k, r.v], e) ∈ l) (ho : r.ok w) : Rd w 2 (.slice (some ⟨g, 0, none⟩) 1 1) 1 (cellsRec r) := by
  have h : Sl e 2 [(g, #[.int .u8 r.k, r.v], e)] (.slice (some ⟨g, 0, none⟩) 1 1) 1 (cellsRec r) := (RwIs.all rfl (by decide)).sl
  exact h.rd hR (fun x hx => by rw [List.mem_singleton.1 hx]; exact hm) (cellsRec_one ho)
/-- Records that lie in rows, whatever else there is. -/
def RecsR (L : List RowT) (v : Value) (rs : List RecZ) : Prop := ∀ (w0 w : World) (l : List RowT), Own w0 w l → (∀ r ∈ L, r ∈ l) → Recs w v rs
/-- A record whose bytes lie in rows. -/
def RecZ.okR (X : List RowT) (r : RecZ) : Prop := (0 ≤ r.k ∧ r.k ≤ 255) ∧ SrcR X r.v r.b ∧ r.b.length ≤ 4000
theorem RecZ.okR.ok {X : List RowT} {r : RecZ} (h : r.okR X) {w0 w : World} {l : List RowT} (hO : Own w0 w l) (hm : ∀ r ∈ X, r ∈ l) : r.ok w := ⟨h.1, h.2.1 _ _ _ hO hm, by have := h.2.2; unfold maxLen; omega⟩
theorem RecZ.okR.mono {X Y : List RowT} {r : RecZ} (h : r.okR X) (hs : ∀ r ∈ X, r ∈ Y) : r.okR Y := ⟨h.1, h.2.1.mono hs, h.2.2⟩
/-- How far the records have come. -/
structure AllIs (w0 : World) (bs : List Int) (vl va : Value) (wr : World) : Prop where
  at_ : ∃ (k f : Nat) (X sl : List RowT) (rs : List RecZ), va = .int .i64 k ∧ k ≤ bs.length ∧ bs.length - k ≤ f ∧ rs.length ≤ k ∧
    allR bs.length bs = (rs.map RecZ.two ++ (allR f (bs.drop k)).1, (allR f (bs.drop k)).2) ∧ Own w0 wr (sl ++ X) ∧ Sl 26 2 sl vl rs.length (rs.flatMap cellsRec) ∧ ∀ r ∈ rs, r.okR X
set_option maxHeartbeats 1000000 in
theorem recall_own {w0 : World} {v : Value} {bs : List Int} (h : SrcW w0 v bs) (hl : bs.length ≤ 1000000) :
    Calls Try.prog 12 #[v] w0 fun e w' => ∃ L vl rs, e = .returned (.tuple #[vl, .int .i64 (allR bs.length bs).2]) ∧ Own w0 w' L ∧ RecsR L vl rs ∧ (∀ r ∈ rs, r.b.length ≤ 4000) ∧ ((allR bs.length bs).2 = 0 → rs.map RecZ.two = (allR bs.length bs).1) := by
  have hR := Own.start w0
  go_enter Try.func12, Try.ntmps12
  go_wp2_with fail
  go_loopw [4, 5] (fun vl va wr => AllIs w0 bs vl va wr) (fun _ va _ => bs.length - (intOf va).toNat)
  case atStart => exact ⟨0, bs.length, [], [], [], rfl, Nat.zero_le _, Nat.le_refl _, Nat.le_refl _, by rw [List.drop_zero]; rfl, hR, Sl.nil _ _, fun _ h => nomatch h⟩
  case round =>
    clear hR
    obtain ⟨k, f, X, sl, rs, rfl, hk, hf, hn, hA, hR, hS, hok⟩ := hrel
    by_cases hkl : k < bs.length
    · have hkl' : (k : Int) < (bs.length : Int) := by omega
      obtain ⟨f, rfl⟩ : ∃ f', f = f' + 1 := ⟨f - 1, by omega⟩
      obtain ⟨cs, hcs⟩ : ∃ cs, bs.drop k = cs := ⟨_, rfl⟩
      have hcl : SrcW w0 (cutV v k bs.length) cs := by have := h.cut k bs.length (by omega) (Nat.le_refl _); rwa [List.take_length, hcs] at this
      have hcn : cs.length = bs.length - k := by rw [← hcs, List.length_drop]
      have hne : cs ≠ [] := fun he => by rw [he] at hcn; simp only [List.length_nil] at hcn; omega
      have hstep := allR_step f hne
      have hdrop : ∀ m, cs.drop m = bs.drop (k + m) := fun m => by rw [← hcs, List.drop_drop]
      rw [hdrop] at hstep
      have hsome := get_some hcl.ok
      rw [hcs, hstep] at hA
      obtain ⟨⟨gk, gb, gn, ge⟩, hG⟩ : ∃ G, getR cs = G := ⟨_, rfl⟩
      rw [hG] at hA hsome
      have HG := Lib.hid hG
      have hcm : cs.length ≤ 1000000 := by omega
      have HCN := Lib.hid hcn
      clear hstep hdrop hG hcs hne hcn
      dsimp only at hA hsome
      have HA := Lib.hid hA
      clear hA
      by_cases he : ge = 0
      · subst he
        obtain ⟨hgk, hg4, hgl, hgb⟩ := hsome rfl
        have hgn : gn ≤ bs.length - k := by rw [← HCN.out]; exact hgl
        clear hsome hgl
        have HS := Lib.hid (IntWalk.i64_in ((k : Int) + (gn : Int)) (by omega))
        go_wp2_with (first
    | ((with_reducible apply q_ls hR); exact rfl; (with_reducible apply t_lenW Try.underlying22); (apply EvC.now; exact rfl); exact h; (simp only [List.set_cons_succ, List.set_cons_zero]; exact rfl); clear hR; intro w hR)
    | ((with_reducible apply q_ls hR); exact rfl; (with_reducible apply t_cutL tBytesN h (l := k)); (apply EvC.now; exact rfl); (apply EvC.now; exact rfl); exact rfl; omega; (simp only [List.set_cons_succ, List.set_cons_zero]; exact rfl); clear hR; intro w hR)
    | (go_at_call 8; refine (recget_own (hcl.own hR) hcm).mono ?_; rw [HG.out]; rintro e w' ⟨s3, vb, rfl, hO, hB⟩; have hJ := hR.join hO; clear hR hO; have hR := hJ; clear hJ; have hV := hB _ _ _ hR (fun r hr => List.mem_append_left _ hr))
    | ((with_reducible apply wpList_make hR zRec); exact rfl; clear hR; intro g w hR; simp only [List.set_cons_succ, List.set_cons_zero])
    | ((with_reducible apply wpList_put hR tRec); exact rfl; exact rfl; exact rfl; (focus (repeat (first | apply List.Mem.head | apply List.Mem.tail | apply List.mem_append_right))); exact put_rec _ _ _ _; exact rfl; simp; exact one_rec _ hV; (focus (repeat (first | apply Upd.head | apply Upd.tail))); clear hR; intro w hR)
    | ((with_reducible apply wpList_buildS hR); exact rfl; exact rfl; (exact bRecs1' _ hV); clear hR; intro gc w hR; simp only [List.set_cons_succ, List.set_cons_zero])
    | ((with_reducible apply wpList_appG hR tRecsB'); exact rfl; exact rfl; exact rfl; exact hS; (focus (repeat (with_reducible first | apply Les.head | apply Les.one | apply Les.tail | apply Les.skip))); (exact rd_rec' (r := ⟨gk, vb, gb⟩) hR (.head _) ⟨hgk, (hB _ _ _ hR (fun r hr => List.mem_cons_of_mem _ (List.mem_cons_of_mem _ (List.mem_append_left _ hr)))), by show gb.length ≤ _; unfold maxLen; omega⟩); (simp only [maxLen]; omega); omega; clear hR hS; intro s4 v4 w hR hS; simp only [List.set_cons_succ, List.set_cons_zero])
    | ((with_reducible apply q_ls hR); exact rfl; ((with_reducible first | apply t_addr (fRec _ (by decide)) | apply t_one tByteR | apply t_one tSlR | apply t_one tIntR | apply t_part tRec) <;> (first | (apply EvC.gv; exact rfl; (with_reducible first | exact Imp.refl _ | (apply Imp.left; exact Imp.refl _) | (apply Imp.right; exact Imp.refl _) | (apply Imp.left; apply Imp.left; exact Imp.refl _))) | (apply EvC.now; exact rfl) | exact rfl | (with_reducible exact EvAll.nil) | (focus (repeat (first | apply EvAll.cons | exact EvAll.nil | (apply EvC.gv; exact rfl; (with_reducible first | exact Imp.refl _ | (apply Imp.left; exact Imp.refl _) | (apply Imp.right; exact Imp.refl _) | (apply Imp.left; apply Imp.left; exact Imp.refl _))) | (apply EvC.now; exact rfl))); done) | (exact ext_recQ _ _) | (focus (repeat (first | apply List.Mem.head | apply List.Mem.tail | apply List.mem_append_right))))); (simp only [List.set_cons_succ, List.set_cons_zero]; exact rfl); clear hR; intro w hR))
        go_round
        case rel =>
          refine ⟨k + gn, f, s3 ++ X, s4, rs ++ [⟨gk, vb, gb⟩], by first | rfl | exact val_intR (by omega), by omega, by omega, by rw [List.length_append]; simp only [List.length_cons, List.length_nil]; omega, ?_, ?_, ?_, ?_⟩
          · rw [HA.out]
            simp [RecZ.two]
          · exact hR.drop (List.Sublist.append (List.Sublist.refl _) (.cons _ (.cons _ (List.Sublist.refl _))))
          · have e1 : (rs ++ [(⟨gk, vb, gb⟩ : RecZ)]).length = rs.length + 1 := by simp
            rw [e1]
            exact hS.cast (by simp)
          · intro r hr
            rcases List.mem_append.1 hr with hr | hr
            · exact (hok r hr).mono fun x hx => List.mem_append_right _ hx
            · rw [List.mem_singleton.1 hr]
              exact ⟨hgk, hB.mono fun x hx => List.mem_append_left _ hx, hgb⟩
        case measure => simp [intOf]; omega
      · go_wp2_with (first
    | ((with_reducible apply q_ls hR); exact rfl; (with_reducible apply t_lenW Try.underlying22); (apply EvC.now; exact rfl); exact h; (simp only [List.set_cons_succ, List.set_cons_zero]; exact rfl); clear hR; intro w hR)
    | ((with_reducible apply q_ls hR); exact rfl; (with_reducible apply t_cutL tBytesN h (l := k)); (apply EvC.now; exact rfl); (apply EvC.now; exact rfl); exact rfl; omega; (simp only [List.set_cons_succ, List.set_cons_zero]; exact rfl); clear hR; intro w hR)
    | (go_at_call 8; refine (recget_own (hcl.own hR) hcm).mono ?_; rw [HG.out]; rintro e w' ⟨s3, vb, rfl, hO, hB⟩; have hJ := hR.join hO; clear hR hO; have hR := hJ; clear hJ; have hV := hB _ _ _ hR (fun r hr => List.mem_append_left _ hr))
    | ((with_reducible apply wpList_make hR zRec); exact rfl; clear hR; intro g w hR; simp only [List.set_cons_succ, List.set_cons_zero])
    | ((with_reducible apply wpList_put hR tRec); exact rfl; exact rfl; exact rfl; (focus (repeat (first | apply List.Mem.head | apply List.Mem.tail | apply List.mem_append_right))); exact put_rec _ _ _ _; exact rfl; simp; exact one_rec _ hV; (focus (repeat (first | apply Upd.head | apply Upd.tail))); clear hR; intro w hR)
    | ((with_reducible apply q_ls hR); exact rfl; ((with_reducible first | apply t_addr (fRec _ (by decide)) | apply t_one tByteR | apply t_one tSlR | apply t_one tIntR | apply t_part tRec) <;> (first | (apply EvC.gv; exact rfl; (with_reducible first | exact Imp.refl _ | (apply Imp.left; exact Imp.refl _) | (apply Imp.right; exact Imp.refl _) | (apply Imp.left; apply Imp.left; exact Imp.refl _))) | (apply EvC.now; exact rfl) | exact rfl | (with_reducible exact EvAll.nil) | (focus (repeat (first | apply EvAll.cons | exact EvAll.nil | (apply EvC.gv; exact rfl; (with_reducible first | exact Imp.refl _ | (apply Imp.left; exact Imp.refl _) | (apply Imp.right; exact Imp.refl _) | (apply Imp.left; apply Imp.left; exact Imp.refl _))) | (apply EvC.now; exact rfl))); done) | (exact ext_recQ _ _) | (focus (repeat (first | apply List.Mem.head | apply List.Mem.tail | apply List.mem_append_right))))); (simp only [List.set_cons_succ, List.set_cons_zero]; exact rfl); clear hR; intro w hR))
        go_ret2
        have h2 : (allR bs.length bs).2 = ge := by rw [HA.out, if_neg he]
        exact ⟨[], .slice none 0 0, [], by rw [h2]; rfl, hR.drop (List.nil_sublist _), fun _ w _ _ _ => ⟨(fun _ h => nomatch h), ⟨rfl, rfl, .inl ⟨rfl, rfl, rfl⟩⟩⟩, (fun _ h => nomatch h), fun h0 => absurd (h2.symm.trans h0) he⟩
    · have hke : bs.drop k = [] := List.drop_eq_nil_of_le (by omega)
      have hkl' : ¬ (k : Int) < (bs.length : Int) := by omega
      rw [hke, allR_nil, List.append_nil] at hA
      have HA := Lib.hid hA
      clear hA hke
      go_wp2_with (first
    | ((with_reducible apply q_ls hR); exact rfl; (with_reducible apply t_lenW Try.underlying22); (apply EvC.now; exact rfl); exact h; (simp only [List.set_cons_succ, List.set_cons_zero]; exact rfl); clear hR; intro w hR)
    | ((with_reducible apply q_ls hR); exact rfl; ((with_reducible first | apply t_addr (fRec _ (by decide)) | apply t_one tByteR | apply t_one tSlR | apply t_one tIntR | apply t_part tRec) <;> (first | (apply EvC.gv; exact rfl; (with_reducible first | exact Imp.refl _ | (apply Imp.left; exact Imp.refl _) | (apply Imp.right; exact Imp.refl _) | (apply Imp.left; apply Imp.left; exact Imp.refl _))) | (apply EvC.now; exact rfl) | exact rfl | (with_reducible exact EvAll.nil) | (focus (repeat (first | apply EvAll.cons | exact EvAll.nil | (apply EvC.gv; exact rfl; (with_reducible first | exact Imp.refl _ | (apply Imp.left; exact Imp.refl _) | (apply Imp.right; exact Imp.refl _) | (apply Imp.left; apply Imp.left; exact Imp.refl _))) | (apply EvC.now; exact rfl))); done) | (exact ext_recQ _ _) | (focus (repeat (first | apply List.Mem.head | apply List.Mem.tail | apply List.mem_append_right))))); (simp only [List.set_cons_succ, List.set_cons_zero]; exact rfl); clear hR; intro w hR))
      go_ret2
      refine ⟨sl ++ X, u4, by rw [HA.out]; rfl, hR, rs, fun wa wb l hO hm => hS.recs hO (fun r hr => hm r (List.mem_append_left _ hr)) (fun r hr => (hok r hr).ok hO fun x hx => hm x (List.mem_append_right _ hx)), fun r hr => (hok r hr).2.2, fun _ => by rw [HA.out]⟩
theorem recall_any {w : World} {v : Value} {bs : List Int} (h : SrcW w v bs) (hl : bs.length ≤ 1000000) :
    Calls Try.prog 12 #[v] w fun e w' => ∃ vl rs, e = .returned (.tuple #[vl, .int .i64 (allR bs.length bs).2]) ∧ Below w.heap.size w w' ∧ Recs w' vl rs ∧ ((allR bs.length bs).2 = 0 → rs.map RecZ.two = (allR bs.length bs).1) :=
  (recall_own h hl).mono fun e w' ⟨L, vl, rs, h1, h2, h3, _, h4⟩ => ⟨vl, rs, h1, h2.below, h3 _ _ _ h2 fun _ h => h, h4⟩
/-! ### Bytes -/
theorem catR_okR : ∀ {l : List (Int × List Int)}, (∀ r ∈ l, (0 ≤ r.1 ∧ r.1 ≤ 255) ∧ bytesOk r.2) → bytesOk (catR l)
  | [], _ => .nil
  | r :: l, h => (recN_ok (h r (.head _)).1 (h r (.head _)).2).append (catR_okR fun x hx => h x (.tail _ hx))
theorem catR_moreR (l : List (Int × List Int)) (r : Int × List Int) : catR (l ++ [r]) = catR l ++ recN r.1 r.2 := by
  induction l with
  | nil => simp [catR]
  | cons x l ih => simp only [List.cons_append, catR, ih, List.append_assoc]
/-- How far the bytes have come. -/
structure BytIs (w0 : World) (rs : List RecZ) (vb vi : Value) (wr : World) : Prop where
  at_ : ∃ (k n : Nat) (s : List RowT), vi = .int .i64 k ∧ k ≤ rs.length ∧ n ≤ 4004 * k ∧ Own w0 wr (s ++ []) ∧ Sl 5 1 s vb n (cellsB (catR ((rs.take k).map RecZ.two))) ∧ ∀ r ∈ rs.take k, r.b.length ≤ 4000
set_option maxHeartbeats 1000000 in
theorem recbytes_own {w0 : World} {v : Value} {rs : List RecZ} (h : Recs w0 v rs) (hn : rs.length ≤ 20000) :
    Calls Try.prog 13 #[v] w0 fun e w' => ∃ s vb bs, e = .returned (.tuple #[vb, .int .i64 (bif bigR rs then 8 else 0)]) ∧ Own w0 w' s ∧ SrcR s vb bs ∧ (bigR rs = false → bs = catR (rs.map RecZ.two)) := by
  have hR := Own.start w0
  go_enter Try.func13, Try.ntmps13
  go_wp2_with (first
    | ((with_reducible apply q_ls hR); exact rfl; (with_reducible apply t_lenRd Try.underlying36); (apply EvC.now; exact rfl); exact h.rd; (simp only [List.set_cons_succ, List.set_cons_zero]; exact rfl); clear hR; intro w hR))
  go_loopw [4, 9] (fun vb vi wr => BytIs w0 rs vb vi wr) (fun _ vi _ => rs.length - (intOf vi).toNat)
  case atStart => exact ⟨0, 0, [], rfl, Nat.zero_le _, Nat.le_refl _, hR, Sl.nil _ _, fun _ h => nomatch h⟩
  case round =>
    clear hR
    obtain ⟨k, n, s, rfl, hk, hnk, hR, hS, hb⟩ := hrel
    by_cases hkl : k < rs.length
    · have hkl' : (k : Int) < (rs.length : Int) := by omega
      obtain ⟨r, hr⟩ : ∃ r, rs[k]? = some r := ⟨_, List.getElem?_eq_getElem hkl⟩
      have hmem := List.mem_of_getElem? hr
      have hro := h.ok r hmem
      obtain ⟨a, cap, rfl, hc0, hc1⟩ := h.el hr
      have HGC : Hid (∀ j u, (#[Value.int .u8 r.k, r.v] : Array Value).toList[j]? = some u → w0.cell? ((a.add (k * 2)).add j) = some u) := Lib.hid (by
        intro j u hu
        match j, hu with
        | 0, hu => obtain rfl := Option.some.inj hu; exact hc0
        | 1, hu => obtain rfl := Option.some.inj hu; exact hc1)
      have htk : rs.take (k + 1) = rs.take k ++ [r] := by rw [List.take_add_one, hr]; rfl
      have HTK := Lib.hid htk
      clear hc0 hc1 htk
      by_cases hbig : 4000 < r.b.length
      · have HB := Lib.hid (decide_eq_true hbig)
        have HBIG := Lib.hid (bigR_yes hmem hbig)
        go_wp2_with (first
    | ((with_reducible apply q_ls hR); exact rfl; (with_reducible apply t_six Try.underlying36 iRec); (apply EvC.now; exact rfl); (apply EvC.now; exact rfl); (constructor <;> omega); (simp only [List.set_cons_succ, List.set_cons_zero]; exact rfl); clear hR; intro w hR)
    | ((with_reducible apply q_ls hR); exact rfl; (with_reducible apply t_oldMany tRec); (apply EvC.now; exact rfl); (first | exact HGC.out | (simpa using HGC.out)); (exact rfl); (simp only [List.set_cons_succ, List.set_cons_zero]; exact rfl); clear hR; intro w hR)
    | ((with_reducible apply wpList_make hR zRec); exact rfl; clear hR; intro g w hR; simp only [List.set_cons_succ, List.set_cons_zero])
    | ((with_reducible apply wpList_put hR tRec); exact rfl; exact rfl; exact rfl; (focus (repeat (first | apply List.Mem.head | apply List.Mem.tail | apply List.mem_append_right))); exact put_rec _ _ _ _; exact rfl; simp; exact one_rec _ hro.2.1; (focus (repeat (first | apply Upd.head | apply Upd.tail))); clear hR; intro w hR)
    | (go_at_call 15; refine (recbig_any (hro.2.1.own hR)).mono ?_; rw [HB.out]; rintro e w' ⟨rfl, hb⟩; replace hR := hR.grow hb; clear hb)
    | ((with_reducible apply q_ls hR); exact rfl; ((with_reducible first | apply t_addr (fRec _ (by decide)) | apply t_one tByteR | apply t_one tSlR | apply t_one tIntR | apply t_part tRec) <;> (first | (apply EvC.gv; exact rfl; (with_reducible first | exact Imp.refl _ | (apply Imp.left; exact Imp.refl _) | (apply Imp.right; exact Imp.refl _) | (apply Imp.left; apply Imp.left; exact Imp.refl _))) | (apply EvC.now; exact rfl) | exact rfl | (with_reducible exact EvAll.nil) | (focus (repeat (first | apply EvAll.cons | exact EvAll.nil | (apply EvC.gv; exact rfl; (with_reducible first | exact Imp.refl _ | (apply Imp.left; exact Imp.refl _) | (apply Imp.right; exact Imp.refl _) | (apply Imp.left; apply Imp.left; exact Imp.refl _))) | (apply EvC.now; exact rfl))); done) | (exact ext_recQ _ _) | (focus (repeat (first | apply List.Mem.head | apply List.Mem.tail | apply List.mem_append_right))))); (simp only [List.set_cons_succ, List.set_cons_zero]; exact rfl); clear hR; intro w hR))
        go_ret2
        exact ⟨[], .slice none 0 0, [], by rw [HBIG.out]; rfl, hR.drop (List.nil_sublist _), (Sl.nil 5 1).srcR (bs := []) .nil, fun h0 => absurd (HBIG.out.symm.trans h0) (by decide)⟩
      · have HB := Lib.hid (decide_eq_false hbig)
        have hx : bytesOk (catR ((rs.take k).map RecZ.two)) := catR_okR fun x hx => by
          obtain ⟨z, hz, rfl⟩ := List.mem_map.1 hx
          have := h.ok z (List.mem_of_mem_take hz)
          exact ⟨this.1, this.2.1.ok⟩
        go_wp2_with (first
    | ((with_reducible apply q_ls hR); exact rfl; (with_reducible apply t_six Try.underlying36 iRec); (apply EvC.now; exact rfl); (apply EvC.now; exact rfl); (constructor <;> omega); (simp only [List.set_cons_succ, List.set_cons_zero]; exact rfl); clear hR; intro w hR)
    | ((with_reducible apply q_ls hR); exact rfl; (with_reducible apply t_oldMany tRec); (apply EvC.now; exact rfl); (first | exact HGC.out | (simpa using HGC.out)); (exact rfl); (simp only [List.set_cons_succ, List.set_cons_zero]; exact rfl); clear hR; intro w hR)
    | ((with_reducible apply wpList_make hR zRec); exact rfl; clear hR; intro g w hR; simp only [List.set_cons_succ, List.set_cons_zero])
    | ((with_reducible apply wpList_put hR tRec); exact rfl; exact rfl; exact rfl; (focus (repeat (first | apply List.Mem.head | apply List.Mem.tail | apply List.mem_append_right))); exact put_rec _ _ _ _; exact rfl; simp; exact one_rec _ hro.2.1; (focus (repeat (first | apply Upd.head | apply Upd.tail))); clear hR; intro w hR)
    | (go_at_call 15; refine (recbig_any (hro.2.1.own hR)).mono ?_; rw [HB.out]; rintro e w' ⟨rfl, hb⟩; replace hR := hR.grow hb; clear hb)
    | (go_at_call 16; refine (recwhole_any hro.1 hR (by (focus (repeat (with_reducible first | apply Les.head | apply Les.one | apply Les.tail | apply Les.skip)))) hS hx (by omega) hro.2.1 (by omega)).mono ?_; rintro e w' ⟨s2, v2, rfl, hO, hS2⟩; clear hR hS; have hR := hO; have hS := hS2; clear hO hS2)
    | ((with_reducible apply q_ls hR); exact rfl; ((with_reducible first | apply t_addr (fRec _ (by decide)) | apply t_one tByteR | apply t_one tSlR | apply t_one tIntR | apply t_part tRec) <;> (first | (apply EvC.gv; exact rfl; (with_reducible first | exact Imp.refl _ | (apply Imp.left; exact Imp.refl _) | (apply Imp.right; exact Imp.refl _) | (apply Imp.left; apply Imp.left; exact Imp.refl _))) | (apply EvC.now; exact rfl) | exact rfl | (with_reducible exact EvAll.nil) | (focus (repeat (first | apply EvAll.cons | exact EvAll.nil | (apply EvC.gv; exact rfl; (with_reducible first | exact Imp.refl _ | (apply Imp.left; exact Imp.refl _) | (apply Imp.right; exact Imp.refl _) | (apply Imp.left; apply Imp.left; exact Imp.refl _))) | (apply EvC.now; exact rfl))); done) | (exact ext_recQ _ _) | (focus (repeat (first | apply List.Mem.head | apply List.Mem.tail | apply List.mem_append_right))))); (simp only [List.set_cons_succ, List.set_cons_zero]; exact rfl); clear hR; intro w hR))
        go_round
        case rel =>
          refine ⟨k + 1, _, s2, by first | rfl | exact val_intR (by omega), by omega, ?_, hR.drop (List.Sublist.append (List.Sublist.refl _) (List.nil_sublist _)), hS.cast ?_, ?_⟩
          · omega
          · rw [HTK.out, List.map_append, List.map_cons, List.map_nil, catR_moreR]; rfl
          · rw [HTK.out]
            intro x hx
            rcases List.mem_append.1 hx with hx | hx
            · exact hb x hx
            · rw [List.mem_singleton.1 hx]; omega
        case measure => simp [intOf]; omega
    · have hke : rs.take k = rs := List.take_of_length_le (by omega)
      have hkl' : ¬ (k : Int) < (rs.length : Int) := by omega
      rw [hke] at hS hb
      have HBIG := Lib.hid (bigR_not hb)
      have hx : bytesOk (catR (rs.map RecZ.two)) := catR_okR fun x hx => by
        obtain ⟨z, hz, rfl⟩ := List.mem_map.1 hx
        have := h.ok z hz
        exact ⟨this.1, this.2.1.ok⟩
      clear hke
      go_wp2_with (first
    | ((with_reducible apply q_ls hR); exact rfl; ((with_reducible first | apply t_addr (fRec _ (by decide)) | apply t_one tByteR | apply t_one tSlR | apply t_one tIntR | apply t_part tRec) <;> (first | (apply EvC.gv; exact rfl; (with_reducible first | exact Imp.refl _ | (apply Imp.left; exact Imp.refl _) | (apply Imp.right; exact Imp.refl _) | (apply Imp.left; apply Imp.left; exact Imp.refl _))) | (apply EvC.now; exact rfl) | exact rfl | (with_reducible exact EvAll.nil) | (focus (repeat (first | apply EvAll.cons | exact EvAll.nil | (apply EvC.gv; exact rfl; (with_reducible first | exact Imp.refl _ | (apply Imp.left; exact Imp.refl _) | (apply Imp.right; exact Imp.refl _) | (apply Imp.left; apply Imp.left; exact Imp.refl _))) | (apply EvC.now; exact rfl))); done) | (exact ext_recQ _ _) | (focus (repeat (first | apply List.Mem.head | apply List.Mem.tail | apply List.mem_append_right))))); (simp only [List.set_cons_succ, List.set_cons_zero]; exact rfl); clear hR; intro w hR))
      go_ret2
      exact ⟨s, u4, by rw [HBIG.out]; rfl, hR.drop (List.sublist_append_left _ _), _, hS.srcR hx, fun _ => rfl⟩
theorem recbytes_any {w : World} {v : Value} {rs : List RecZ} (h : Recs w v rs) (hn : rs.length ≤ 1000) (hl : ∀ r ∈ rs, r.b.length ≤ 60000) :
    Calls Try.prog 13 #[v] w fun e w' => ∃ vb bs, e = .returned (.tuple #[vb, .int .i64 (bif bigR rs then 8 else 0)]) ∧ Below w.heap.size w w' ∧ SrcW w' vb bs ∧ (bigR rs = false → bs = catR (rs.map RecZ.two)) :=
  (recbytes_own h (by omega)).mono fun e w' ⟨s, vb, bs, h1, h2, h3, h4⟩ => ⟨vb, bs, h1, h2.below, h3 _ _ _ h2 fun _ h => h, h4⟩
end Go.Proofs.Ytkmeaadkiakbdaa
