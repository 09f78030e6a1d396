









/- The contract of pubs.Publics. No statement of the seat is proved here. -/
import Derived.Test.YtmiakniilimghaaPubB
namespace Go.Proofs.Ytmiakniilimghaa
open Go.ChangeShapes Go.WideShapes Go.ChangeAt Go.RowKit
set_option linter.unusedVariables false
set_option linter.unusedSimpArgs false

theorem pubB_most (p : PubZ) : (pubB p).length ≤ 259 := by
  have := nam18_len p.nm
  unfold pubB
  simp only [List.length_append, bytesN_len, List.length_cons, List.length_nil]
  omega
theorem pubsB_most (l : List PubZ) : (pubsB l).length ≤ 6 + 259 * l.length := by
  cases l with
  | nil => simp [pubsB]
  | cons p l =>
    have h1 := (headB_len p).2
    have h2 := flat_most (f := pubB) pubB_most (p :: l)
    unfold pubsB
    rw [List.length_append]; omega
theorem pubsB_first {l : List PubZ} {p : PubZ} (h : l[0]? = some p) : pubsB (l.take 1) = headB p ++ pubB p := by
  cases l with
  | nil => exact nomatch h
  | cons q l => obtain rfl : q = p := Option.some.inj h; simp [pubsB]
theorem pubsB_more {l : List PubZ} {k : Nat} {p : PubZ} (h : l[k]? = some p) (hk : 0 < k) : pubsB (l.take (k + 1)) = pubsB (l.take k) ++ pubB p := by
  obtain ⟨m, rfl⟩ : ∃ m, k = m + 1 := ⟨k - 1, by omega⟩
  cases l with
  | nil => exact nomatch h
  | cons q l =>
    have h1 := flat_more (f := pubB) h
    rw [List.take_succ_cons, List.take_succ_cons] at h1
    show headB q ++ (q :: l.take (m + 1)).flatMap pubB = headB q ++ (q :: l.take m).flatMap pubB ++ pubB p
    rw [h1, List.append_assoc]
set_option maxHeartbeats 2000000 in
theorem pubPublics_any {w0 : World} (v : Value) (l : List PubZ) (hP : RowsAt 5 cellsPub w0 v l) (hok : ∀ p ∈ l, p.ok) (hsg : ∀ p ∈ l, 0 ≤ p.s ∧ p.s ≤ 32767) (hn : l.length ≤ 1000) (hnm : ∀ p ∈ l, p.nm.length ≤ 1000) :
    Calls Try.prog 6 #[v] w0 fun e w' => RetB w0 w' (fun v => .agg #[.int .u8 144, v]) e (pubsB l) := by
  have hR := Own.start w0
  go_enter Try.func6, Try.ntmps6
  go_wp2_with (first
    | ((with_reducible apply wpList_make hR zRec); exact rfl; clear hR; intro g w hR; simp only [List.set_cons_succ, List.set_cons_zero])
    | ((with_reducible apply q_ls hR); exact rfl; (with_reducible apply t_lenRd Try.underlying22); (apply EvC.now; exact rfl); exact hP; (simp only [List.set_cons_succ, List.set_cons_zero]; exact rfl); clear hR; intro w hR))
  go_loopw [3, 8] (fun b i wr => ∃ (k : Nat) (s : List RowT), i = .int .i64 k ∧ k ≤ l.length ∧ Sl 5 1 s b (pubsB (l.take k)).length (cellsB (pubsB (l.take k))) ∧ Own w0 wr (s ++ [(g, #[.int .u8 0, .slice none 0 0], 28)])) (fun _ i _ => l.length - (intOf i).toNat)
  case atStart => exact ⟨0, [], rfl, Nat.zero_le _, Sl.nil _ _, hR⟩
  case round =>
    clear hR
    obtain ⟨k, s, rfl, hk, hS, hR⟩ := hrel
    by_cases hkl : k < l.length
    · obtain ⟨p, hp⟩ : ∃ p, l[k]? = some p := ⟨_, List.getElem?_eq_getElem hkl⟩
      have hpm := List.mem_of_getElem? hp
      have hpo := hok p hpm
      have hps := hsg p hpm
      have hpn := hnm p hpm
      have hmost := pubsB_most (l.take k)
      rw [List.length_take] at hmost
      obtain ⟨a, cap, rfl, hc⟩ := hP.el cellsPub_len hp
      have HC := Lib.hid (show ∀ j u, (encPub p).toList[j]? = some u → w0.cell? ((a.add ((k : Int).toNat * 5)).add j) = some u from fun j u hu => by rw [Int.toNat_natCast]; exact hc j u hu)
      have HBS := Lib.hid (fun w => base_any p hpo hps w)
      have HNM := Lib.hid (fun w => namX_any p.nm w hpo.2.2.2.1 (by omega))
      have HTW := Lib.hid (fun w => twoX_any p.o w hpo.2.2.2.2)
      have HPU := Lib.hid (fun w => putX_any 0 w (by decide) (by decide))
      have hon := nam18_ok hpo.2.2.2.1
      have ho2 := bytesN_ok p.o 2
      have hoz := idxN_ok 0
      have hnl := nam18_len p.nm
      have hnl2 : (nam18 p.nm).length ≤ 256 := by omega
      have h2l := bytesN_len p.o 2
      have hzl : (idxN 0).length = 1 := rfl
      have hhl := (headB_len p).2
      have HPB := Lib.hid (show nam18 p.nm ++ (bytesN p.o 2 ++ idxN 0) = pubB p from rfl)
      by_cases h0 : k = 0
      · subst h0
        have HV := Lib.hid (show pubsB (l.take (0 + 1)) = headB p ++ (nam18 p.nm ++ (bytesN p.o 2 ++ idxN 0)) by rw [HPB.out]; exact pubsB_first hp)
        have HZ := Lib.hid (show cmpB .eql ((0 : Nat) : Int) 0 = some true from rfl)
        clear hc hp hmost hnl
        go_upto_region 7 with (first
    | ((with_reducible apply q_ls hR); exact rfl; (with_reducible apply t_six Try.underlying22 iPub); (apply EvC.now; exact rfl); (apply EvC.now; exact rfl); (constructor <;> omega); (simp only [List.set_cons_succ, List.set_cons_zero]; exact rfl); clear hR; intro w hR)
    | ((with_reducible apply q_ls hR); exact rfl; (with_reducible apply t_oldMany tPub); (apply EvC.now; exact rfl); exact HC.out; exact rfl; (simp only [List.set_cons_succ, List.set_cons_zero]; exact rfl); clear hR; intro w hR)
    | ((with_reducible apply wpList_make hR zPub); exact rfl; clear hR; intro gp w hR; simp only [List.set_cons_succ, List.set_cons_zero])
    | ((with_reducible apply wpList_put hR tPub); exact rfl; exact rfl; exact rfl; (focus (repeat (first | apply List.Mem.head | apply List.Mem.tail | apply List.mem_append_right))); exact put_pub _ _; exact rfl; simp [encPub]; exact one_pub _; (focus (repeat (first | apply Upd.head | apply Upd.tail | apply Upd.skipC))); clear hR; intro w hR)
    | ((with_reducible apply q_ls hR); exact rfl; (with_reducible apply t_cmp); (apply EvC.now; exact rfl); (apply EvC.now; exact rfl); exact HZ.out; (simp only [List.set_cons_succ, List.set_cons_zero]; exact rfl); clear hR; intro w hR)
    | (go_at_call 17; refine (HBS.out _).mono ?_; rintro e w' ⟨s0, v0, rfl, hO, hS0⟩; replace hR := hR.join hO; clear hO)
    | ((with_reducible apply q_ls hR); exact rfl; ((with_reducible first | apply t_addr (fRec _ (by decide)) | apply t_addr (fPub _ (by decide)) | apply t_addr (fExt _ (by decide)) | apply t_one tByteR | apply t_one tSlR | apply t_one tIntR | apply t_one tWordP | apply t_one tNumX | apply t_one tStrO | apply t_part tPub | apply t_part tExt) <;> (first | (apply EvC.gv; exact rfl; (with_reducible first | exact Imp.refl _ | (apply Imp.left; exact Imp.refl _) | (apply Imp.right; exact Imp.refl _) | (apply Imp.left; apply Imp.left; exact Imp.refl _))) | (apply EvC.now; exact rfl) | exact rfl | (with_reducible exact EvAll.nil) | (focus (repeat (first | apply EvAll.cons | exact EvAll.nil | (apply EvC.gv; exact rfl; (with_reducible first | exact Imp.refl _ | (apply Imp.left; exact Imp.refl _) | (apply Imp.right; exact Imp.refl _) | (apply Imp.left; apply Imp.left; exact Imp.refl _))) | (apply EvC.now; exact rfl))); done) | (first | exact ext_pub _ | exact ext_ext _) | (focus (repeat (first | apply List.Mem.head | apply List.Mem.tail | apply List.mem_append_right))))); (simp only [List.set_cons_succ, List.set_cons_zero]; exact rfl); clear hR; intro w hR))
        replace hR := hR.drop (l' := s0 ++ (gp, encPub p, 25) :: [(g, #[.int .u8 0, .slice none 0 0], 28)]) (List.Sublist.append (List.Sublist.refl _) (by (focus (repeat (with_reducible first | exact List.Sublist.slnil | exact List.nil_sublist _ | exact List.Sublist.refl _ | exact List.sublist_append_right _ _ | apply List.Sublist.cons_cons | apply List.Sublist.cons | apply sub_rightI)))))
        replace hS := hS0
        clear hS0
        obtain ⟨y, hy⟩ : ∃ y, headB p = y := ⟨_, rfl⟩
        rw [hy] at hS hhl HV
        have hyl : y.length ≤ 259006 := by omega
        clear hy
        refine wp_region_some hR [(gp, encPub p, 25)] (by (focus (repeat (with_reducible first | exact List.Sublist.slnil | exact List.nil_sublist _ | exact List.Sublist.refl _ | exact List.sublist_append_right _ _ | apply List.Sublist.cons_cons | apply List.Sublist.cons | apply sub_rightI)))) [0, 1, 2, 4, 5] 7 (by kernel_rfl) (by kernel_rfl) (by kernel_rfl) rfl ?_
        clear hR; intro hR
        repeat (refine wpT_step rfl ?_; first
            | ((first | (with_reducible apply q_pl) | ((with_reducible apply q_gd); (first | (apply GdBy.gt; exact rfl; exact rfl) | (apply GdBy.gf; exact rfl; exact rfl) | (apply GdBy.t; exact rfl; exact rfl) | (apply GdBy.f; exact rfl; exact rfl)))); (first | ((with_reducible first | apply t_move | apply t_assign | apply t_and | apply t_or | apply t_cmp | apply t_not | apply t_addr (fRec _ (by decide)) | apply t_addr (fPub _ (by decide)) | apply t_addr (fExt _ (by decide)) | apply t_one tByteR | apply t_one tSlR | apply t_one tIntR | apply t_one tWordP | apply t_one tNumX | apply t_one tStrO | apply t_part tPub | apply t_part tExt) <;> (first | (apply EvC.gv; exact rfl; (with_reducible first | exact Imp.refl _ | (apply Imp.left; exact Imp.refl _) | (apply Imp.right; exact Imp.refl _) | (apply Imp.left; apply Imp.left; exact Imp.refl _))) | (apply EvC.now; exact rfl) | exact rfl | (with_reducible exact EvAll.nil) | (focus (repeat (first | apply EvAll.cons | exact EvAll.nil | (apply EvC.gv; exact rfl; (with_reducible first | exact Imp.refl _ | (apply Imp.left; exact Imp.refl _) | (apply Imp.right; exact Imp.refl _) | (apply Imp.left; apply Imp.left; exact Imp.refl _))) | (apply EvC.now; exact rfl))); done) | (first | exact ext_pub _ | exact ext_ext _) | (focus (repeat (first | apply List.Mem.head | apply List.Mem.tail | apply List.mem_append_right)))))); (simp only [List.set_cons_succ, List.set_cons_zero]; exact rfl)))
        refine wpT_nil ?_
        refine wpG_callO hR (i := 3) (by kernel_rfl) Try.call19 rfl rfl rfl ?_
        clear hR; intro w hR
        refine (HNM.out _).mono ?_
        rintro e w' ⟨s1, v1, rfl, hO, hS1⟩
        replace hR := hR.join hO; clear hO
        refine ⟨_, rfl, hR.drop (by (focus (repeat (with_reducible first | exact List.Sublist.slnil | exact List.nil_sublist _ | exact List.Sublist.refl _ | exact List.sublist_append_right _ _ | apply List.Sublist.cons_cons | apply List.Sublist.cons | apply sub_rightI)))), ?_⟩
        simp only [List.set_cons_succ, List.set_cons_zero]
        obtain ⟨a1, n1, c1, rfl⟩ := hS1.shapeIdx
        refine wpG_callO hR (i := 6) (by kernel_rfl) Try.call20 rfl rfl rfl ?_
        clear hR; intro w hR
        refine (HTW.out _).mono ?_
        rintro e w' ⟨s2, v2, rfl, hO, hS2⟩
        replace hR := hR.join hO; clear hO
        refine ⟨_, rfl, hR.drop (by (focus (repeat (with_reducible first | exact List.Sublist.slnil | exact List.nil_sublist _ | exact List.Sublist.refl _ | exact List.sublist_append_right _ _ | apply List.Sublist.cons_cons | apply List.Sublist.cons | apply sub_rightI)))), ?_⟩
        simp only [List.set_cons_succ, List.set_cons_zero]
        obtain ⟨a2, n2, c2, rfl⟩ := hS2.shapeIdx
        refine wpG_callO hR (i := 7) (by kernel_rfl) Try.call21 rfl rfl rfl ?_
        clear hR; intro w hR
        refine (HPU.out _).mono ?_
        rintro e w' ⟨s3, v3, rfl, hO, hS3⟩
        replace hR := hR.join hO; clear hO
        refine ⟨_, rfl, hR.drop (by (focus (repeat (with_reducible first | exact List.Sublist.slnil | exact List.nil_sublist _ | exact List.Sublist.refl _ | exact List.sublist_append_right _ _ | apply List.Sublist.cons_cons | apply List.Sublist.cons | apply sub_rightI)))), ?_⟩
        simp only [List.set_cons_succ, List.set_cons_zero]
        obtain ⟨a3, n3, c3, rfl⟩ := hS3.shapeIdx
        refine wpG_buildS hR (i := 8) (by kernel_rfl) rfl rfl rfl (bCat3) (by (focus (repeat (with_reducible first | exact List.Sublist.slnil | exact List.nil_sublist _ | exact List.Sublist.refl _ | exact List.sublist_append_right _ _ | apply List.Sublist.cons_cons | apply List.Sublist.cons | apply sub_rightI)))) ?_
        clear hR; intro gb w hR
        simp only [List.set_cons_succ, List.set_cons_zero]
        refine wpG_callO hR (i := 9) (by kernel_rfl) Try.call18 rfl rfl rfl ?_
        clear hR; intro w hR
        refine (cat3_row hR (.head _) (hS1.src hR (fun r hr => by simp [hr]) hon) (hS2.src hR (fun r hr => by simp [hr]) ho2) (hS3.src hR (fun r hr => by simp [hr]) hoz) (by omega) (by omega) (by omega)).mono ?_
        rintro e w' ⟨s4, v4, rfl, hO, hS4⟩
        replace hR := hR.join hO; clear hO
        refine ⟨_, rfl, hR.drop (by (focus (repeat (with_reducible first | exact List.Sublist.slnil | exact List.nil_sublist _ | exact List.Sublist.refl _ | exact List.sublist_append_right _ _ | apply List.Sublist.cons_cons | apply List.Sublist.cons | apply sub_rightI)))), ?_⟩
        simp only [List.set_cons_succ, List.set_cons_zero]
        refine wpG_appG hR (i := 10) (by kernel_rfl) tBytesI rfl rfl rfl rfl (Les.skip _ (Les.tail (Les.skip _ (Les.skip _ (Les.skip _ (Les.head (s := s0))))))) hS (fun w1 h1 => hS4.rd h1 (fun r hr => by simp [hr]) (ones_p _)) (by simp [maxLen]; omega) (by simp; omega) (by (focus (repeat (with_reducible first | exact List.Sublist.slnil | exact List.nil_sublist _ | exact List.Sublist.refl _ | exact List.sublist_append_right _ _ | apply List.Sublist.cons_cons | apply List.Sublist.cons | apply sub_rightI)))) ?_
        clear hR hS; intro sx vx w hR hS
        simp only [List.set_cons_succ, List.set_cons_zero]
        refine wpG_slot hR (i := 11) (by kernel_rfl) rfl rfl (by simp only [List.set_cons_succ, List.set_cons_zero]; exact rfl) ?_
        clear hR; intro w hR
        refine wpG_end hR (by kernel_rfl) ?_
        clear hR; intro w hR
        go_wp2
        go_round
        case rel =>
          refine ⟨0 + 1, sx, rfl, by omega, ?_, hR.drop (List.Sublist.append (List.Sublist.refl _) (by (focus (repeat (with_reducible first | exact List.Sublist.slnil | exact List.nil_sublist _ | exact List.Sublist.refl _ | exact List.sublist_append_right _ _ | apply List.Sublist.cons_cons | apply List.Sublist.cons | apply sub_rightI)))))⟩
          rw [HV.out, List.length_append, cellsB_append]
          exact hS
        case measure => first | (simp [intOf]; done) | (simp [intOf]; omega)
      · have HV := Lib.hid (show pubsB (l.take (k + 1)) = pubsB (l.take k) ++ (nam18 p.nm ++ (bytesN p.o 2 ++ idxN 0)) by rw [HPB.out]; exact pubsB_more hp (by omega))
        obtain ⟨y, hy⟩ : ∃ y, pubsB (l.take k) = y := ⟨_, rfl⟩
        rw [hy] at hS hmost HV
        have hyl : y.length ≤ 259006 := by omega
        have HZ := Lib.hid (show cmpB .eql (k : Int) 0 = some false by simp [cmpB]; omega)
        clear hc hp hmost hnl hy
        go_upto_region 7 with (first
    | ((with_reducible apply q_ls hR); exact rfl; (with_reducible apply t_six Try.underlying22 iPub); (apply EvC.now; exact rfl); (apply EvC.now; exact rfl); (constructor <;> omega); (simp only [List.set_cons_succ, List.set_cons_zero]; exact rfl); clear hR; intro w hR)
    | ((with_reducible apply q_ls hR); exact rfl; (with_reducible apply t_oldMany tPub); (apply EvC.now; exact rfl); exact HC.out; exact rfl; (simp only [List.set_cons_succ, List.set_cons_zero]; exact rfl); clear hR; intro w hR)
    | ((with_reducible apply wpList_make hR zPub); exact rfl; clear hR; intro gp w hR; simp only [List.set_cons_succ, List.set_cons_zero])
    | ((with_reducible apply wpList_put hR tPub); exact rfl; exact rfl; exact rfl; (focus (repeat (first | apply List.Mem.head | apply List.Mem.tail | apply List.mem_append_right))); exact put_pub _ _; exact rfl; simp [encPub]; exact one_pub _; (focus (repeat (first | apply Upd.head | apply Upd.tail | apply Upd.skipC))); clear hR; intro w hR)
    | ((with_reducible apply q_ls hR); exact rfl; (with_reducible apply t_cmp); (apply EvC.now; exact rfl); (apply EvC.now; exact rfl); exact HZ.out; (simp only [List.set_cons_succ, List.set_cons_zero]; exact rfl); clear hR; intro w hR)
    | ((with_reducible apply q_ls hR); exact rfl; ((with_reducible first | apply t_addr (fRec _ (by decide)) | apply t_addr (fPub _ (by decide)) | apply t_addr (fExt _ (by decide)) | apply t_one tByteR | apply t_one tSlR | apply t_one tIntR | apply t_one tWordP | apply t_one tNumX | apply t_one tStrO | apply t_part tPub | apply t_part tExt) <;> (first | (apply EvC.gv; exact rfl; (with_reducible first | exact Imp.refl _ | (apply Imp.left; exact Imp.refl _) | (apply Imp.right; exact Imp.refl _) | (apply Imp.left; apply Imp.left; exact Imp.refl _))) | (apply EvC.now; exact rfl) | exact rfl | (with_reducible exact EvAll.nil) | (focus (repeat (first | apply EvAll.cons | exact EvAll.nil | (apply EvC.gv; exact rfl; (with_reducible first | exact Imp.refl _ | (apply Imp.left; exact Imp.refl _) | (apply Imp.right; exact Imp.refl _) | (apply Imp.left; apply Imp.left; exact Imp.refl _))) | (apply EvC.now; exact rfl))); done) | (first | exact ext_pub _ | exact ext_ext _) | (focus (repeat (first | apply List.Mem.head | apply List.Mem.tail | apply List.mem_append_right))))); (simp only [List.set_cons_succ, List.set_cons_zero]; exact rfl); clear hR; intro w hR))
        replace hR := hR.les (Les.tail (Les.head (s := s)))
        obtain ⟨s0, hs0⟩ : ∃ s0, s = s0 := ⟨_, rfl⟩
        rw [hs0] at hR hS
        clear hs0
        refine wp_region_some hR [(gp, encPub p, 25)] (by (focus (repeat (with_reducible first | exact List.Sublist.slnil | exact List.nil_sublist _ | exact List.Sublist.refl _ | exact List.sublist_append_right _ _ | apply List.Sublist.cons_cons | apply List.Sublist.cons | apply sub_rightI)))) [0, 1, 2, 4, 5] 7 (by kernel_rfl) (by kernel_rfl) (by kernel_rfl) rfl ?_
        clear hR; intro hR
        repeat (refine wpT_step rfl ?_; first
            | ((first | (with_reducible apply q_pl) | ((with_reducible apply q_gd); (first | (apply GdBy.gt; exact rfl; exact rfl) | (apply GdBy.gf; exact rfl; exact rfl) | (apply GdBy.t; exact rfl; exact rfl) | (apply GdBy.f; exact rfl; exact rfl)))); (first | ((with_reducible first | apply t_move | apply t_assign | apply t_and | apply t_or | apply t_cmp | apply t_not | apply t_addr (fRec _ (by decide)) | apply t_addr (fPub _ (by decide)) | apply t_addr (fExt _ (by decide)) | apply t_one tByteR | apply t_one tSlR | apply t_one tIntR | apply t_one tWordP | apply t_one tNumX | apply t_one tStrO | apply t_part tPub | apply t_part tExt) <;> (first | (apply EvC.gv; exact rfl; (with_reducible first | exact Imp.refl _ | (apply Imp.left; exact Imp.refl _) | (apply Imp.right; exact Imp.refl _) | (apply Imp.left; apply Imp.left; exact Imp.refl _))) | (apply EvC.now; exact rfl) | exact rfl | (with_reducible exact EvAll.nil) | (focus (repeat (first | apply EvAll.cons | exact EvAll.nil | (apply EvC.gv; exact rfl; (with_reducible first | exact Imp.refl _ | (apply Imp.left; exact Imp.refl _) | (apply Imp.right; exact Imp.refl _) | (apply Imp.left; apply Imp.left; exact Imp.refl _))) | (apply EvC.now; exact rfl))); done) | (first | exact ext_pub _ | exact ext_ext _) | (focus (repeat (first | apply List.Mem.head | apply List.Mem.tail | apply List.mem_append_right)))))); (simp only [List.set_cons_succ, List.set_cons_zero]; exact rfl)))
        refine wpT_nil ?_
        refine wpG_callO hR (i := 3) (by kernel_rfl) Try.call19 rfl rfl rfl ?_
        clear hR; intro w hR
        refine (HNM.out _).mono ?_
        rintro e w' ⟨s1, v1, rfl, hO, hS1⟩
        replace hR := hR.join hO; clear hO
        refine ⟨_, rfl, hR.drop (by (focus (repeat (with_reducible first | exact List.Sublist.slnil | exact List.nil_sublist _ | exact List.Sublist.refl _ | exact List.sublist_append_right _ _ | apply List.Sublist.cons_cons | apply List.Sublist.cons | apply sub_rightI)))), ?_⟩
        simp only [List.set_cons_succ, List.set_cons_zero]
        obtain ⟨a1, n1, c1, rfl⟩ := hS1.shapeIdx
        refine wpG_callO hR (i := 6) (by kernel_rfl) Try.call20 rfl rfl rfl ?_
        clear hR; intro w hR
        refine (HTW.out _).mono ?_
        rintro e w' ⟨s2, v2, rfl, hO, hS2⟩
        replace hR := hR.join hO; clear hO
        refine ⟨_, rfl, hR.drop (by (focus (repeat (with_reducible first | exact List.Sublist.slnil | exact List.nil_sublist _ | exact List.Sublist.refl _ | exact List.sublist_append_right _ _ | apply List.Sublist.cons_cons | apply List.Sublist.cons | apply sub_rightI)))), ?_⟩
        simp only [List.set_cons_succ, List.set_cons_zero]
        obtain ⟨a2, n2, c2, rfl⟩ := hS2.shapeIdx
        refine wpG_callO hR (i := 7) (by kernel_rfl) Try.call21 rfl rfl rfl ?_
        clear hR; intro w hR
        refine (HPU.out _).mono ?_
        rintro e w' ⟨s3, v3, rfl, hO, hS3⟩
        replace hR := hR.join hO; clear hO
        refine ⟨_, rfl, hR.drop (by (focus (repeat (with_reducible first | exact List.Sublist.slnil | exact List.nil_sublist _ | exact List.Sublist.refl _ | exact List.sublist_append_right _ _ | apply List.Sublist.cons_cons | apply List.Sublist.cons | apply sub_rightI)))), ?_⟩
        simp only [List.set_cons_succ, List.set_cons_zero]
        obtain ⟨a3, n3, c3, rfl⟩ := hS3.shapeIdx
        refine wpG_buildS hR (i := 8) (by kernel_rfl) rfl rfl rfl (bCat3) (by (focus (repeat (with_reducible first | exact List.Sublist.slnil | exact List.nil_sublist _ | exact List.Sublist.refl _ | exact List.sublist_append_right _ _ | apply List.Sublist.cons_cons | apply List.Sublist.cons | apply sub_rightI)))) ?_
        clear hR; intro gb w hR
        simp only [List.set_cons_succ, List.set_cons_zero]
        refine wpG_callO hR (i := 9) (by kernel_rfl) Try.call18 rfl rfl rfl ?_
        clear hR; intro w hR
        refine (cat3_row hR (.head _) (hS1.src hR (fun r hr => by simp [hr]) hon) (hS2.src hR (fun r hr => by simp [hr]) ho2) (hS3.src hR (fun r hr => by simp [hr]) hoz) (by omega) (by omega) (by omega)).mono ?_
        rintro e w' ⟨s4, v4, rfl, hO, hS4⟩
        replace hR := hR.join hO; clear hO
        refine ⟨_, rfl, hR.drop (by (focus (repeat (with_reducible first | exact List.Sublist.slnil | exact List.nil_sublist _ | exact List.Sublist.refl _ | exact List.sublist_append_right _ _ | apply List.Sublist.cons_cons | apply List.Sublist.cons | apply sub_rightI)))), ?_⟩
        simp only [List.set_cons_succ, List.set_cons_zero]
        refine wpG_appG hR (i := 10) (by kernel_rfl) tBytesI rfl rfl rfl rfl (Les.skip _ (Les.tail (Les.skip _ (Les.skip _ (Les.skip _ (Les.head (s := s0))))))) hS (fun w1 h1 => hS4.rd h1 (fun r hr => by simp [hr]) (ones_p _)) (by simp [maxLen]; omega) (by simp; omega) (by (focus (repeat (with_reducible first | exact List.Sublist.slnil | exact List.nil_sublist _ | exact List.Sublist.refl _ | exact List.sublist_append_right _ _ | apply List.Sublist.cons_cons | apply List.Sublist.cons | apply sub_rightI)))) ?_
        clear hR hS; intro sx vx w hR hS
        simp only [List.set_cons_succ, List.set_cons_zero]
        refine wpG_slot hR (i := 11) (by kernel_rfl) rfl rfl (by simp only [List.set_cons_succ, List.set_cons_zero]; exact rfl) ?_
        clear hR; intro w hR
        refine wpG_end hR (by kernel_rfl) ?_
        clear hR; intro w hR
        go_wp2
        go_round
        case rel =>
          refine ⟨k + 1, sx, rfl, by omega, ?_, hR.drop (List.Sublist.append (List.Sublist.refl _) (by (focus (repeat (with_reducible first | exact List.Sublist.slnil | exact List.nil_sublist _ | exact List.Sublist.refl _ | exact List.sublist_append_right _ _ | apply List.Sublist.cons_cons | apply List.Sublist.cons | apply sub_rightI)))))⟩
          rw [HV.out, List.length_append, cellsB_append]
          exact hS
        case measure => first | (simp [intOf]; done) | (simp [intOf]; omega)
    · have hke : l.take k = l := List.take_of_length_le (by omega)
      rw [hke] at hS
      go_wp2_with (first
    | ((with_reducible apply wpList_built); exact rfl; exact rfl; exact bRecC _ hS; (simp only [List.set_cons_succ, List.set_cons_zero]; exact rfl))
    | ((with_reducible apply wpList_put hR tRec); exact rfl; exact rfl; exact rfl; (focus (repeat (first | apply List.Mem.head | apply List.Mem.tail | apply List.mem_append_right))); exact put_rec _ _ _ _; exact rfl; simp; exact one_recC _ hS; (focus (repeat (first | apply Upd.head | apply Upd.tail | apply Upd.skipC))); clear hR; intro w hR))
      (try simp only [Exit.inBlock, Exit.then])
      exact post_row hR rfl (by rfl) (by (focus (repeat (first | apply List.Mem.head | apply List.Mem.tail | apply List.mem_append_right)))) Try.underlying28 rfl iRec (by rfl) (by rfl) ⟨s, _, rfl, hR.drop (List.sublist_append_left _ _), hS.srcR (pubsB_ok fun x hx => (hok x hx).2.2.2.1)⟩
end Go.Proofs.Ytmiakniilimghaa
