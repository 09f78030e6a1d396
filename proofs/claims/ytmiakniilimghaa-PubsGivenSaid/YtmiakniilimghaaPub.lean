









/- The contracts of package pubs: Given; the others over it. No statement of the seat is proved here. -/
import Derived.Test.YtmiakniilimghaaPubH
import Derived.Test.YtmiakniilimghaaPubA
import Derived.Test.YtmiakniilimghaaPubC
import Derived.Test.YtmiakniilimghaaR22
namespace Go.Proofs.Ytmiakniilimghaa
open Go.ChangeShapes Go.WideShapes Go.ChangeAt Go.RowKit
set_option linter.unusedVariables false
set_option linter.unusedSimpArgs false

theorem bPub2 (g s : Int) : Built Try.prog 25 [(0, .int .i64 g), (1, .int .i64 s)] (encPub ⟨g, s, 0, [], 0⟩) := ⟨by kernel_rfl⟩
set_option maxHeartbeats 2000000 in
theorem pubGiven_any {w0 : World} {v : Value} {bs : List Int} (h : SrcW w0 v bs) (hl : bs.length ≤ 1000000) (hne : bs ≠ []) :
    Calls Try.prog 9 #[v] w0 fun e w' => RetR 5 cellsPub w0 w' (fun v => .tuple #[v, .int .i64 (givR bs).2]) e (givR bs).1 := by
  have hR := Own.start w0
  have hok : SrcZ.ok ⟨bs, 0⟩ := ⟨h.ok, fun hn => absurd rfl hn⟩
  have hrd := h.rd
  have hv := givR_all bs
  have hH : givH bs = ((indexZ ⟨bs, 0⟩).1, (indexZ (indexZ ⟨bs, 0⟩).2).1, if (indexZ (indexZ ⟨bs, 0⟩).2).1 = 0 then numZ (indexZ (indexZ ⟨bs, 0⟩).2).2 2 else (0, (indexZ (indexZ ⟨bs, 0⟩).2).2)) := rfl
  have hok1 := (index_goes ⟨bs, 0⟩).ok hok
  have hl1 := Nat.le_trans (index_goes ⟨bs, 0⟩).len hl
  obtain ⟨⟨x, z1⟩, h1⟩ : ∃ q, indexZ ⟨bs, 0⟩ = q := ⟨_, rfl⟩
  rw [h1] at hH hok1 hl1
  dsimp only at hH hok1 hl1
  have hok2 := (index_goes z1).ok hok1
  have hl2 := Nat.le_trans (index_goes z1).len hl1
  have hyb := index_range hok1
  obtain ⟨⟨y, z2⟩, h2⟩ : ∃ q, indexZ z1 = q := ⟨_, rfl⟩
  rw [h2] at hH hok2 hl2 hyb
  dsimp only at hH hok2 hl2 hyb
  have hway : (y = 0 ∧ ∃ f z3, numZ z2 2 = (f, z3) ∧ z3.ok ∧ z3.b.length ≤ 1000000 ∧ givH bs = (x, y, f, z3)) ∨ (y ≠ 0 ∧ givH bs = (x, y, 0, z2)) := by
    by_cases hy : y = 0
    · have hok3 := (num_goes z2 2).ok hok2
      have hl3 := Nat.le_trans (num_goes z2 2).len hl2
      rw [if_pos hy] at hH
      obtain ⟨⟨f, z3⟩, h3⟩ : ∃ q, numZ z2 2 = q := ⟨_, rfl⟩
      rw [h3] at hH hok3 hl3
      exact .inl ⟨hy, f, z3, h3, hok3, hl3, hH⟩
    · rw [if_neg hy] at hH
      exact .inr ⟨hy, hH⟩
  have H1 := Lib.hid h1
  have H2 := Lib.hid h2
  have HE := Lib.hid (show cmpB .eql (bs.length : Int) 0 = some false by have := List.length_pos_iff.2 hne; simp [cmpB]; omega)
  clear h1 h2 hne
  go_enter Try.func9, Try.ntmps9
  go_wp2_with (first
    | ((with_reducible apply q_ls hR); exact rfl; (with_reducible apply t_lenRd Try.underlying26); (apply EvC.now; exact rfl); exact hrd; (simp only [List.set_cons_succ, List.set_cons_zero]; exact rfl); clear hR; intro w hR)
    | ((with_reducible apply q_ls hR); exact rfl; (with_reducible apply t_cmp); (apply EvC.now; exact rfl); (apply EvC.now; exact rfl); exact HE.out; (simp only [List.set_cons_succ, List.set_cons_zero]; exact rfl); clear hR; intro w hR))
  refine (fromG_any hR (src_start h) (fun _ hr => nomatch hr) hl).mono ?_
  rintro e w' ⟨g, cs, sr, rfl, hO, hS⟩
  clear hR
  have hR := hO
  rw [List.append_nil] at hR
  clear hO
  go_upto_region 4 with (first
    | ((with_reducible apply wpList_make1 hR zPS cPS); exact rfl; clear hR; intro gc w hR; simp only [List.set_cons_succ, List.set_cons_zero])
    | ((with_reducible apply wpList_put1 hR tPS); exact rfl; exact rfl; exact rfl; (focus (repeat (first | apply List.Mem.head | apply List.Mem.tail | apply List.mem_append_right))); (exact put_ps1 _ _); (simp); exact rfl; (focus (repeat (first | apply Upd.head | apply Upd.tail | apply Upd.skipC))); clear hR; intro w hR))
  replace hR := hR.les (Les.tail Les.one)
  refine wp_region_some hR [(gc, #[Value.pointer (some ⟨g, 0, none⟩)], 58)] (by (focus (repeat (with_reducible first | exact List.Sublist.slnil | exact List.nil_sublist _ | exact List.Sublist.refl _ | exact List.sublist_append_right _ _ | apply List.Sublist.cons_cons | apply List.Sublist.cons | apply sub_rightI)))) [0, 2] 5 (by kernel_rfl) (by kernel_rfl) (by kernel_rfl) rfl ?_
  clear hR; intro hR
  repeat (refine wpT_step rfl ?_; first
    | ((with_reducible apply q_pl); (with_reducible apply t_one tPS); (apply EvC.now; exact rfl); (focus (repeat (first | apply List.Mem.head | apply List.Mem.tail | apply List.mem_append_right))); exact rfl; (simp only [List.set_cons_succ, List.set_cons_zero]; exact rfl)))
  refine wpT_nil ?_
  refine wpG_two hR (i := 1) (j := 5) (by kernel_rfl) ?_ ?_
  · skip
    clear hR; intro w hR
    refine opCallO hR Try.call25 rfl rfl rfl ?_
    refine (indexX_any hR Les.one (fun r hr => by simp [hr]) hS hok hl).mono ?_
    rw [H1.out]
    rintro e w' ⟨rfl, cs2, hR2, hS2⟩
    clear hR hS; have hR := hR2; have hS := hS2; clear hR2 hS2
    refine ⟨_, rfl, hR.drop (List.singleton_sublist.2 (by (focus (repeat (first | exact hKm | apply List.Mem.head | apply List.Mem.tail | apply List.mem_append_right))))), ?_⟩
    simp only [List.set_cons_succ, List.set_cons_zero]
    refine wpG_two hR (i := 3) (j := 5) (by kernel_rfl) ?_ ?_
    · skip
      clear hR; intro w hR
      refine opCallO hR Try.call25 rfl rfl rfl ?_
      refine (indexX_any hR Les.one (fun r hr => by simp [hr]) hS hok1 hl1).mono ?_
      rw [H2.out]
      rintro e w' ⟨rfl, cs2, hR2, hS2⟩
      clear hR hS; have hR := hR2; have hS := hS2; clear hR2 hS2
      refine ⟨_, rfl, hR.drop (List.singleton_sublist.2 (by (focus (repeat (first | exact hKm | apply List.Mem.head | apply List.Mem.tail | apply List.mem_append_right))))), ?_⟩
      simp only [List.set_cons_succ, List.set_cons_zero]
      refine wpG_two hR (i := 4) (j := 5) (by kernel_rfl) ?_ ?_
      · skip
        clear hR; intro w hR
        refine opQ hR rfl rfl (t_built rfl (bPub2 _ _)) (by (simp only [List.set_cons_succ, List.set_cons_zero]; exact rfl)) ?_
        clear hR; intro w hR
        refine ⟨hR.drop (List.singleton_sublist.2 (by (focus (repeat (first | exact hKm | apply List.Mem.head | apply List.Mem.tail | apply List.mem_append_right))))), ?_⟩
        refine wpG_one hR (i := 5) (by kernel_rfl) ?_
        clear hR; intro w hR
        refine opMake hR zPub rfl ?_
        clear hR; intro go w hR
        replace hR := hR.les (Les.tail Les.one)
        refine ⟨hR.drop (List.singleton_sublist.2 (by (focus (repeat (first | exact hKm | apply List.Mem.head | apply List.Mem.tail | apply List.mem_append_right))))), ?_⟩
        simp only [List.set_cons_succ, List.set_cons_zero]
        refine wpG_put hR tPub (i := 6) (by kernel_rfl) rfl rfl rfl (by (focus (repeat (first | apply List.Mem.head | apply List.Mem.tail | apply List.mem_append_right)))) (put_pub _ _) rfl (by simp [encPub]) (one_pub _) (by (focus (repeat (first | apply Upd.head | apply Upd.tail | apply Upd.skipC)))) (List.singleton_sublist.2 (by (focus (repeat (first | exact hKm | apply List.Mem.head | apply List.Mem.tail | apply List.mem_append_right))))) ?_
        clear hR; intro w hR
        refine wpG_end hR (by kernel_rfl) ?_
        clear hR; intro w hR
        rcases hway with ⟨hy, f, z3, h3, hok3, hl3, hH3⟩ | ⟨hy, hH3⟩
        · have H3 := Lib.hid h3
          have HIS : Hid (∀ w : World, Calls Try.prog 26 #[.int .i64 y] w fun e w' => e = .returned (.bool false) ∧ Below w.heap.size w w') := Lib.hid fun w => by have := isSeg_any y w; rwa [decide_eq_false (by omega)] at this
          rw [hH3] at hv
          dsimp only at hv
          have HV := Lib.hid hv
          clear hH3 h3 hy hyb hv hH
          go_wp2_with (first
            | ((with_reducible apply q_ls hR); exact rfl; (with_reducible apply t_one tPS); (apply EvC.now; exact rfl); (focus (repeat (first | apply List.Mem.head | apply List.Mem.tail | apply List.mem_append_right))); exact rfl; (simp only [List.set_cons_succ, List.set_cons_zero]; exact rfl); clear hR; intro w hR)
            | (go_at_call 26; refine (HIS.out _).mono ?_; rintro e w' ⟨rfl, hb⟩; replace hR := hR.grow hb; clear hb)
            | (go_at_call 27; refine (wordX_any hR Les.one (fun r hr => by simp [hr]) hS hok2 hl2).mono ?_; rw [H3.out]; rintro e w' ⟨rfl, cs3, hR3, hS3⟩; clear hR hS; have hR := hR3; have hS := hS3; clear hR3 hS3)
            | ((with_reducible apply wpList_put1 hR tWordP); exact rfl; exact rfl; exact rfl; (focus (repeat (first | apply List.Mem.head | apply List.Mem.tail | apply List.mem_append_right))); (exact put_pf _ _); (simp [encPub]); exact rfl; (focus (repeat (first | apply Upd.head | apply Upd.tail | apply Upd.skipC))); clear hR; intro w hR)
            | ((with_reducible apply wpList_func); exact rfl; exact rfl; simp only [List.set_cons_succ, List.set_cons_zero])
            | (go_at_call 28; refine (allP_any hR Les.one (fun r hr => by simp [hr]) (K := [pubK go ⟨x, y, f, [], 0⟩, srcK gc g]) (fun r hr => by rcases List.mem_cons.1 hr with e | hr; (subst e; exact .head _); rw [List.mem_singleton.1 hr]; exact .tail _ (.head _)) hS hok3 hl3 Try.call29 (givenC_any w0 g gc go sr ⟨x, y, f, [], 0⟩ ⟨rfl, rfl⟩) (lessG _ _ _)).mono ?_; rintro e w' ⟨s, v2, rfl, hO, hV⟩)
            | ((with_reducible apply q_ls hR); exact rfl; ((with_reducible first | apply t_addr (fRec _ (by decide)) | apply t_addr (fPub _ (by decide)) | apply t_addr (fExt _ (by decide)) | apply t_one tByteR | apply t_one tSlR | apply t_one tIntR | apply t_one tWordP | apply t_one tNumX | apply t_one tStrO | apply t_part tPub | apply t_part tExt) <;> (first | (apply EvC.gv; exact rfl; (with_reducible first | exact Imp.refl _ | (apply Imp.left; exact Imp.refl _) | (apply Imp.right; exact Imp.refl _) | (apply Imp.left; apply Imp.left; exact Imp.refl _))) | (apply EvC.now; exact rfl) | exact rfl | (with_reducible exact EvAll.nil) | (focus (repeat (first | apply EvAll.cons | exact EvAll.nil | (apply EvC.gv; exact rfl; (with_reducible first | exact Imp.refl _ | (apply Imp.left; exact Imp.refl _) | (apply Imp.right; exact Imp.refl _) | (apply Imp.left; apply Imp.left; exact Imp.refl _))) | (apply EvC.now; exact rfl))); done) | (first | exact ext_pub _ | exact ext_ext _) | (focus (repeat (first | apply List.Mem.head | apply List.Mem.tail | apply List.mem_append_right))))); (simp only [List.set_cons_succ, List.set_cons_zero]; exact rfl); clear hR; intro w hR))
          go_ret2
          rw [HV.out]
          exact ⟨s, v2, rfl, hO, hV⟩
        · have HIS : Hid (∀ w : World, Calls Try.prog 26 #[.int .i64 y] w fun e w' => e = .returned (.bool true) ∧ Below w.heap.size w w') := Lib.hid fun w => by have := isSeg_any y w; rwa [decide_eq_true (by omega)] at this
          rw [hH3] at hv
          dsimp only at hv
          have HV := Lib.hid hv
          clear hH3 hy hyb hv hH
          go_wp2_with (first
            | ((with_reducible apply q_ls hR); exact rfl; (with_reducible apply t_one tPS); (apply EvC.now; exact rfl); (focus (repeat (first | apply List.Mem.head | apply List.Mem.tail | apply List.mem_append_right))); exact rfl; (simp only [List.set_cons_succ, List.set_cons_zero]; exact rfl); clear hR; intro w hR)
            | (go_at_call 26; refine (HIS.out _).mono ?_; rintro e w' ⟨rfl, hb⟩; replace hR := hR.grow hb; clear hb)
            | ((with_reducible apply wpList_func); exact rfl; exact rfl; simp only [List.set_cons_succ, List.set_cons_zero])
            | (go_at_call 28; refine (allP_any hR Les.one (fun r hr => by simp [hr]) (K := [pubK go ⟨x, y, 0, [], 0⟩, srcK gc g]) (fun r hr => by rcases List.mem_cons.1 hr with e | hr; (subst e; exact .head _); rw [List.mem_singleton.1 hr]; exact .tail _ (.head _)) hS hok2 hl2 Try.call29 (givenC_any w0 g gc go sr ⟨x, y, 0, [], 0⟩ ⟨rfl, rfl⟩) (lessG _ _ _)).mono ?_; rintro e w' ⟨s, v2, rfl, hO, hV⟩)
            | ((with_reducible apply q_ls hR); exact rfl; ((with_reducible first | apply t_addr (fRec _ (by decide)) | apply t_addr (fPub _ (by decide)) | apply t_addr (fExt _ (by decide)) | apply t_one tByteR | apply t_one tSlR | apply t_one tIntR | apply t_one tWordP | apply t_one tNumX | apply t_one tStrO | apply t_part tPub | apply t_part tExt) <;> (first | (apply EvC.gv; exact rfl; (with_reducible first | exact Imp.refl _ | (apply Imp.left; exact Imp.refl _) | (apply Imp.right; exact Imp.refl _) | (apply Imp.left; apply Imp.left; exact Imp.refl _))) | (apply EvC.now; exact rfl) | exact rfl | (with_reducible exact EvAll.nil) | (focus (repeat (first | apply EvAll.cons | exact EvAll.nil | (apply EvC.gv; exact rfl; (with_reducible first | exact Imp.refl _ | (apply Imp.left; exact Imp.refl _) | (apply Imp.right; exact Imp.refl _) | (apply Imp.left; apply Imp.left; exact Imp.refl _))) | (apply EvC.now; exact rfl))); done) | (first | exact ext_pub _ | exact ext_ext _) | (focus (repeat (first | apply List.Mem.head | apply List.Mem.tail | apply List.mem_append_right))))); (simp only [List.set_cons_succ, List.set_cons_zero]; exact rfl); clear hR; intro w hR))
          go_ret2
          rw [HV.out]
          exact ⟨s, v2, rfl, hO, hV⟩
      · skip
        clear hR; intro w hR
        refine opMake hR zPub rfl ?_
        clear hR; intro go w hR
        replace hR := hR.les (Les.tail Les.one)
        refine ⟨hR.drop (List.singleton_sublist.2 (by (focus (repeat (first | exact hKm | apply List.Mem.head | apply List.Mem.tail | apply List.mem_append_right))))), ?_⟩
        simp only [List.set_cons_succ, List.set_cons_zero]
        refine wpG_q hR (i := 4) (by kernel_rfl) rfl rfl (t_built rfl (bPub2 _ _)) (by (simp only [List.set_cons_succ, List.set_cons_zero]; exact rfl)) (List.singleton_sublist.2 (by (focus (repeat (first | exact hKm | apply List.Mem.head | apply List.Mem.tail | apply List.mem_append_right))))) ?_
        clear hR; intro w hR
        refine wpG_put hR tPub (i := 6) (by kernel_rfl) rfl rfl rfl (by (focus (repeat (first | apply List.Mem.head | apply List.Mem.tail | apply List.mem_append_right)))) (put_pub _ _) rfl (by simp [encPub]) (one_pub _) (by (focus (repeat (first | apply Upd.head | apply Upd.tail | apply Upd.skipC)))) (List.singleton_sublist.2 (by (focus (repeat (first | exact hKm | apply List.Mem.head | apply List.Mem.tail | apply List.mem_append_right))))) ?_
        clear hR; intro w hR
        refine wpG_end hR (by kernel_rfl) ?_
        clear hR; intro w hR
        rcases hway with ⟨hy, f, z3, h3, hok3, hl3, hH3⟩ | ⟨hy, hH3⟩
        · have H3 := Lib.hid h3
          have HIS : Hid (∀ w : World, Calls Try.prog 26 #[.int .i64 y] w fun e w' => e = .returned (.bool false) ∧ Below w.heap.size w w') := Lib.hid fun w => by have := isSeg_any y w; rwa [decide_eq_false (by omega)] at this
          rw [hH3] at hv
          dsimp only at hv
          have HV := Lib.hid hv
          clear hH3 h3 hy hyb hv hH
          go_wp2_with (first
            | ((with_reducible apply q_ls hR); exact rfl; (with_reducible apply t_one tPS); (apply EvC.now; exact rfl); (focus (repeat (first | apply List.Mem.head | apply List.Mem.tail | apply List.mem_append_right))); exact rfl; (simp only [List.set_cons_succ, List.set_cons_zero]; exact rfl); clear hR; intro w hR)
            | (go_at_call 26; refine (HIS.out _).mono ?_; rintro e w' ⟨rfl, hb⟩; replace hR := hR.grow hb; clear hb)
            | (go_at_call 27; refine (wordX_any hR Les.one (fun r hr => by simp [hr]) hS hok2 hl2).mono ?_; rw [H3.out]; rintro e w' ⟨rfl, cs3, hR3, hS3⟩; clear hR hS; have hR := hR3; have hS := hS3; clear hR3 hS3)
            | ((with_reducible apply wpList_put1 hR tWordP); exact rfl; exact rfl; exact rfl; (focus (repeat (first | apply List.Mem.head | apply List.Mem.tail | apply List.mem_append_right))); (exact put_pf _ _); (simp [encPub]); exact rfl; (focus (repeat (first | apply Upd.head | apply Upd.tail | apply Upd.skipC))); clear hR; intro w hR)
            | ((with_reducible apply wpList_func); exact rfl; exact rfl; simp only [List.set_cons_succ, List.set_cons_zero])
            | (go_at_call 28; refine (allP_any hR Les.one (fun r hr => by simp [hr]) (K := [pubK go ⟨x, y, f, [], 0⟩, srcK gc g]) (fun r hr => by rcases List.mem_cons.1 hr with e | hr; (subst e; exact .head _); rw [List.mem_singleton.1 hr]; exact .tail _ (.head _)) hS hok3 hl3 Try.call29 (givenC_any w0 g gc go sr ⟨x, y, f, [], 0⟩ ⟨rfl, rfl⟩) (lessG _ _ _)).mono ?_; rintro e w' ⟨s, v2, rfl, hO, hV⟩)
            | ((with_reducible apply q_ls hR); exact rfl; ((with_reducible first | apply t_addr (fRec _ (by decide)) | apply t_addr (fPub _ (by decide)) | apply t_addr (fExt _ (by decide)) | apply t_one tByteR | apply t_one tSlR | apply t_one tIntR | apply t_one tWordP | apply t_one tNumX | apply t_one tStrO | apply t_part tPub | apply t_part tExt) <;> (first | (apply EvC.gv; exact rfl; (with_reducible first | exact Imp.refl _ | (apply Imp.left; exact Imp.refl _) | (apply Imp.right; exact Imp.refl _) | (apply Imp.left; apply Imp.left; exact Imp.refl _))) | (apply EvC.now; exact rfl) | exact rfl | (with_reducible exact EvAll.nil) | (focus (repeat (first | apply EvAll.cons | exact EvAll.nil | (apply EvC.gv; exact rfl; (with_reducible first | exact Imp.refl _ | (apply Imp.left; exact Imp.refl _) | (apply Imp.right; exact Imp.refl _) | (apply Imp.left; apply Imp.left; exact Imp.refl _))) | (apply EvC.now; exact rfl))); done) | (first | exact ext_pub _ | exact ext_ext _) | (focus (repeat (first | apply List.Mem.head | apply List.Mem.tail | apply List.mem_append_right))))); (simp only [List.set_cons_succ, List.set_cons_zero]; exact rfl); clear hR; intro w hR))
          go_ret2
          rw [HV.out]
          exact ⟨s, v2, rfl, hO, hV⟩
        · have HIS : Hid (∀ w : World, Calls Try.prog 26 #[.int .i64 y] w fun e w' => e = .returned (.bool true) ∧ Below w.heap.size w w') := Lib.hid fun w => by have := isSeg_any y w; rwa [decide_eq_true (by omega)] at this
          rw [hH3] at hv
          dsimp only at hv
          have HV := Lib.hid hv
          clear hH3 hy hyb hv hH
          go_wp2_with (first
            | ((with_reducible apply q_ls hR); exact rfl; (with_reducible apply t_one tPS); (apply EvC.now; exact rfl); (focus (repeat (first | apply List.Mem.head | apply List.Mem.tail | apply List.mem_append_right))); exact rfl; (simp only [List.set_cons_succ, List.set_cons_zero]; exact rfl); clear hR; intro w hR)
            | (go_at_call 26; refine (HIS.out _).mono ?_; rintro e w' ⟨rfl, hb⟩; replace hR := hR.grow hb; clear hb)
            | ((with_reducible apply wpList_func); exact rfl; exact rfl; simp only [List.set_cons_succ, List.set_cons_zero])
            | (go_at_call 28; refine (allP_any hR Les.one (fun r hr => by simp [hr]) (K := [pubK go ⟨x, y, 0, [], 0⟩, srcK gc g]) (fun r hr => by rcases List.mem_cons.1 hr with e | hr; (subst e; exact .head _); rw [List.mem_singleton.1 hr]; exact .tail _ (.head _)) hS hok2 hl2 Try.call29 (givenC_any w0 g gc go sr ⟨x, y, 0, [], 0⟩ ⟨rfl, rfl⟩) (lessG _ _ _)).mono ?_; rintro e w' ⟨s, v2, rfl, hO, hV⟩)
            | ((with_reducible apply q_ls hR); exact rfl; ((with_reducible first | apply t_addr (fRec _ (by decide)) | apply t_addr (fPub _ (by decide)) | apply t_addr (fExt _ (by decide)) | apply t_one tByteR | apply t_one tSlR | apply t_one tIntR | apply t_one tWordP | apply t_one tNumX | apply t_one tStrO | apply t_part tPub | apply t_part tExt) <;> (first | (apply EvC.gv; exact rfl; (with_reducible first | exact Imp.refl _ | (apply Imp.left; exact Imp.refl _) | (apply Imp.right; exact Imp.refl _) | (apply Imp.left; apply Imp.left; exact Imp.refl _))) | (apply EvC.now; exact rfl) | exact rfl | (with_reducible exact EvAll.nil) | (focus (repeat (first | apply EvAll.cons | exact EvAll.nil | (apply EvC.gv; exact rfl; (with_reducible first | exact Imp.refl _ | (apply Imp.left; exact Imp.refl _) | (apply Imp.right; exact Imp.refl _) | (apply Imp.left; apply Imp.left; exact Imp.refl _))) | (apply EvC.now; exact rfl))); done) | (first | exact ext_pub _ | exact ext_ext _) | (focus (repeat (first | apply List.Mem.head | apply List.Mem.tail | apply List.mem_append_right))))); (simp only [List.set_cons_succ, List.set_cons_zero]; exact rfl); clear hR; intro w hR))
          go_ret2
          rw [HV.out]
          exact ⟨s, v2, rfl, hO, hV⟩
    · skip
      clear hR; intro w hR
      refine opMake hR zPub rfl ?_
      clear hR; intro go w hR
      replace hR := hR.les (Les.tail Les.one)
      refine ⟨hR.drop (List.singleton_sublist.2 (by (focus (repeat (first | exact hKm | apply List.Mem.head | apply List.Mem.tail | apply List.mem_append_right))))), ?_⟩
      simp only [List.set_cons_succ, List.set_cons_zero]
      refine wpG_callO hR (i := 3) (by kernel_rfl) Try.call25 rfl rfl rfl ?_
      clear hR; intro w hR
      refine (indexX_any hR Les.one (fun r hr => by simp [hr]) hS hok1 hl1).mono ?_
      rw [H2.out]
      rintro e w' ⟨rfl, cs2, hR2, hS2⟩
      clear hR hS; have hR := hR2; have hS := hS2; clear hR2 hS2
      refine ⟨_, rfl, hR.drop (List.singleton_sublist.2 (by (focus (repeat (first | exact hKm | apply List.Mem.head | apply List.Mem.tail | apply List.mem_append_right))))), ?_⟩
      simp only [List.set_cons_succ, List.set_cons_zero]
      refine wpG_q hR (i := 4) (by kernel_rfl) rfl rfl (t_built rfl (bPub2 _ _)) (by (simp only [List.set_cons_succ, List.set_cons_zero]; exact rfl)) (List.singleton_sublist.2 (by (focus (repeat (first | exact hKm | apply List.Mem.head | apply List.Mem.tail | apply List.mem_append_right))))) ?_
      clear hR; intro w hR
      refine wpG_put hR tPub (i := 6) (by kernel_rfl) rfl rfl rfl (by (focus (repeat (first | apply List.Mem.head | apply List.Mem.tail | apply List.mem_append_right)))) (put_pub _ _) rfl (by simp [encPub]) (one_pub _) (by (focus (repeat (first | apply Upd.head | apply Upd.tail | apply Upd.skipC)))) (List.singleton_sublist.2 (by (focus (repeat (first | exact hKm | apply List.Mem.head | apply List.Mem.tail | apply List.mem_append_right))))) ?_
      clear hR; intro w hR
      refine wpG_end hR (by kernel_rfl) ?_
      clear hR; intro w hR
      rcases hway with ⟨hy, f, z3, h3, hok3, hl3, hH3⟩ | ⟨hy, hH3⟩
      · have H3 := Lib.hid h3
        have HIS : Hid (∀ w : World, Calls Try.prog 26 #[.int .i64 y] w fun e w' => e = .returned (.bool false) ∧ Below w.heap.size w w') := Lib.hid fun w => by have := isSeg_any y w; rwa [decide_eq_false (by omega)] at this
        rw [hH3] at hv
        dsimp only at hv
        have HV := Lib.hid hv
        clear hH3 h3 hy hyb hv hH
        go_wp2_with (first
          | ((with_reducible apply q_ls hR); exact rfl; (with_reducible apply t_one tPS); (apply EvC.now; exact rfl); (focus (repeat (first | apply List.Mem.head | apply List.Mem.tail | apply List.mem_append_right))); exact rfl; (simp only [List.set_cons_succ, List.set_cons_zero]; exact rfl); clear hR; intro w hR)
          | (go_at_call 26; refine (HIS.out _).mono ?_; rintro e w' ⟨rfl, hb⟩; replace hR := hR.grow hb; clear hb)
          | (go_at_call 27; refine (wordX_any hR Les.one (fun r hr => by simp [hr]) hS hok2 hl2).mono ?_; rw [H3.out]; rintro e w' ⟨rfl, cs3, hR3, hS3⟩; clear hR hS; have hR := hR3; have hS := hS3; clear hR3 hS3)
          | ((with_reducible apply wpList_put1 hR tWordP); exact rfl; exact rfl; exact rfl; (focus (repeat (first | apply List.Mem.head | apply List.Mem.tail | apply List.mem_append_right))); (exact put_pf _ _); (simp [encPub]); exact rfl; (focus (repeat (first | apply Upd.head | apply Upd.tail | apply Upd.skipC))); clear hR; intro w hR)
          | ((with_reducible apply wpList_func); exact rfl; exact rfl; simp only [List.set_cons_succ, List.set_cons_zero])
          | (go_at_call 28; refine (allP_any hR Les.one (fun r hr => by simp [hr]) (K := [pubK go ⟨x, y, f, [], 0⟩, srcK gc g]) (fun r hr => by rcases List.mem_cons.1 hr with e | hr; (subst e; exact .head _); rw [List.mem_singleton.1 hr]; exact .tail _ (.head _)) hS hok3 hl3 Try.call29 (givenC_any w0 g gc go sr ⟨x, y, f, [], 0⟩ ⟨rfl, rfl⟩) (lessG _ _ _)).mono ?_; rintro e w' ⟨s, v2, rfl, hO, hV⟩)
          | ((with_reducible apply q_ls hR); exact rfl; ((with_reducible first | apply t_addr (fRec _ (by decide)) | apply t_addr (fPub _ (by decide)) | apply t_addr (fExt _ (by decide)) | apply t_one tByteR | apply t_one tSlR | apply t_one tIntR | apply t_one tWordP | apply t_one tNumX | apply t_one tStrO | apply t_part tPub | apply t_part tExt) <;> (first | (apply EvC.gv; exact rfl; (with_reducible first | exact Imp.refl _ | (apply Imp.left; exact Imp.refl _) | (apply Imp.right; exact Imp.refl _) | (apply Imp.left; apply Imp.left; exact Imp.refl _))) | (apply EvC.now; exact rfl) | exact rfl | (with_reducible exact EvAll.nil) | (focus (repeat (first | apply EvAll.cons | exact EvAll.nil | (apply EvC.gv; exact rfl; (with_reducible first | exact Imp.refl _ | (apply Imp.left; exact Imp.refl _) | (apply Imp.right; exact Imp.refl _) | (apply Imp.left; apply Imp.left; exact Imp.refl _))) | (apply EvC.now; exact rfl))); done) | (first | exact ext_pub _ | exact ext_ext _) | (focus (repeat (first | apply List.Mem.head | apply List.Mem.tail | apply List.mem_append_right))))); (simp only [List.set_cons_succ, List.set_cons_zero]; exact rfl); clear hR; intro w hR))
        go_ret2
        rw [HV.out]
        exact ⟨s, v2, rfl, hO, hV⟩
      · have HIS : Hid (∀ w : World, Calls Try.prog 26 #[.int .i64 y] w fun e w' => e = .returned (.bool true) ∧ Below w.heap.size w w') := Lib.hid fun w => by have := isSeg_any y w; rwa [decide_eq_true (by omega)] at this
        rw [hH3] at hv
        dsimp only at hv
        have HV := Lib.hid hv
        clear hH3 hy hyb hv hH
        go_wp2_with (first
          | ((with_reducible apply q_ls hR); exact rfl; (with_reducible apply t_one tPS); (apply EvC.now; exact rfl); (focus (repeat (first | apply List.Mem.head | apply List.Mem.tail | apply List.mem_append_right))); exact rfl; (simp only [List.set_cons_succ, List.set_cons_zero]; exact rfl); clear hR; intro w hR)
          | (go_at_call 26; refine (HIS.out _).mono ?_; rintro e w' ⟨rfl, hb⟩; replace hR := hR.grow hb; clear hb)
          | ((with_reducible apply wpList_func); exact rfl; exact rfl; simp only [List.set_cons_succ, List.set_cons_zero])
          | (go_at_call 28; refine (allP_any hR Les.one (fun r hr => by simp [hr]) (K := [pubK go ⟨x, y, 0, [], 0⟩, srcK gc g]) (fun r hr => by rcases List.mem_cons.1 hr with e | hr; (subst e; exact .head _); rw [List.mem_singleton.1 hr]; exact .tail _ (.head _)) hS hok2 hl2 Try.call29 (givenC_any w0 g gc go sr ⟨x, y, 0, [], 0⟩ ⟨rfl, rfl⟩) (lessG _ _ _)).mono ?_; rintro e w' ⟨s, v2, rfl, hO, hV⟩)
          | ((with_reducible apply q_ls hR); exact rfl; ((with_reducible first | apply t_addr (fRec _ (by decide)) | apply t_addr (fPub _ (by decide)) | apply t_addr (fExt _ (by decide)) | apply t_one tByteR | apply t_one tSlR | apply t_one tIntR | apply t_one tWordP | apply t_one tNumX | apply t_one tStrO | apply t_part tPub | apply t_part tExt) <;> (first | (apply EvC.gv; exact rfl; (with_reducible first | exact Imp.refl _ | (apply Imp.left; exact Imp.refl _) | (apply Imp.right; exact Imp.refl _) | (apply Imp.left; apply Imp.left; exact Imp.refl _))) | (apply EvC.now; exact rfl) | exact rfl | (with_reducible exact EvAll.nil) | (focus (repeat (first | apply EvAll.cons | exact EvAll.nil | (apply EvC.gv; exact rfl; (with_reducible first | exact Imp.refl _ | (apply Imp.left; exact Imp.refl _) | (apply Imp.right; exact Imp.refl _) | (apply Imp.left; apply Imp.left; exact Imp.refl _))) | (apply EvC.now; exact rfl))); done) | (first | exact ext_pub _ | exact ext_ext _) | (focus (repeat (first | apply List.Mem.head | apply List.Mem.tail | apply List.mem_append_right))))); (simp only [List.set_cons_succ, List.set_cons_zero]; exact rfl); clear hR; intro w hR))
        go_ret2
        rw [HV.out]
        exact ⟨s, v2, rfl, hO, hV⟩
  · skip
    clear hR; intro w hR
    refine opMake hR zPub rfl ?_
    clear hR; intro go w hR
    replace hR := hR.les (Les.tail Les.one)
    refine ⟨hR.drop (List.singleton_sublist.2 (by (focus (repeat (first | exact hKm | apply List.Mem.head | apply List.Mem.tail | apply List.mem_append_right))))), ?_⟩
    simp only [List.set_cons_succ, List.set_cons_zero]
    refine wpG_callO hR (i := 1) (by kernel_rfl) Try.call25 rfl rfl rfl ?_
    clear hR; intro w hR
    refine (indexX_any hR Les.one (fun r hr => by simp [hr]) hS hok hl).mono ?_
    rw [H1.out]
    rintro e w' ⟨rfl, cs2, hR2, hS2⟩
    clear hR hS; have hR := hR2; have hS := hS2; clear hR2 hS2
    refine ⟨_, rfl, hR.drop (List.singleton_sublist.2 (by (focus (repeat (first | exact hKm | apply List.Mem.head | apply List.Mem.tail | apply List.mem_append_right))))), ?_⟩
    simp only [List.set_cons_succ, List.set_cons_zero]
    refine wpG_callO hR (i := 3) (by kernel_rfl) Try.call25 rfl rfl rfl ?_
    clear hR; intro w hR
    refine (indexX_any hR Les.one (fun r hr => by simp [hr]) hS hok1 hl1).mono ?_
    rw [H2.out]
    rintro e w' ⟨rfl, cs2, hR2, hS2⟩
    clear hR hS; have hR := hR2; have hS := hS2; clear hR2 hS2
    refine ⟨_, rfl, hR.drop (List.singleton_sublist.2 (by (focus (repeat (first | exact hKm | apply List.Mem.head | apply List.Mem.tail | apply List.mem_append_right))))), ?_⟩
    simp only [List.set_cons_succ, List.set_cons_zero]
    refine wpG_q hR (i := 4) (by kernel_rfl) rfl rfl (t_built rfl (bPub2 _ _)) (by (simp only [List.set_cons_succ, List.set_cons_zero]; exact rfl)) (List.singleton_sublist.2 (by (focus (repeat (first | exact hKm | apply List.Mem.head | apply List.Mem.tail | apply List.mem_append_right))))) ?_
    clear hR; intro w hR
    refine wpG_put hR tPub (i := 6) (by kernel_rfl) rfl rfl rfl (by (focus (repeat (first | apply List.Mem.head | apply List.Mem.tail | apply List.mem_append_right)))) (put_pub _ _) rfl (by simp [encPub]) (one_pub _) (by (focus (repeat (first | apply Upd.head | apply Upd.tail | apply Upd.skipC)))) (List.singleton_sublist.2 (by (focus (repeat (first | exact hKm | apply List.Mem.head | apply List.Mem.tail | apply List.mem_append_right))))) ?_
    clear hR; intro w hR
    refine wpG_end hR (by kernel_rfl) ?_
    clear hR; intro w hR
    rcases hway with ⟨hy, f, z3, h3, hok3, hl3, hH3⟩ | ⟨hy, hH3⟩
    · have H3 := Lib.hid h3
      have HIS : Hid (∀ w : World, Calls Try.prog 26 #[.int .i64 y] w fun e w' => e = .returned (.bool false) ∧ Below w.heap.size w w') := Lib.hid fun w => by have := isSeg_any y w; rwa [decide_eq_false (by omega)] at this
      rw [hH3] at hv
      dsimp only at hv
      have HV := Lib.hid hv
      clear hH3 h3 hy hyb hv hH
      go_wp2_with (first
        | ((with_reducible apply q_ls hR); exact rfl; (with_reducible apply t_one tPS); (apply EvC.now; exact rfl); (focus (repeat (first | apply List.Mem.head | apply List.Mem.tail | apply List.mem_append_right))); exact rfl; (simp only [List.set_cons_succ, List.set_cons_zero]; exact rfl); clear hR; intro w hR)
        | (go_at_call 26; refine (HIS.out _).mono ?_; rintro e w' ⟨rfl, hb⟩; replace hR := hR.grow hb; clear hb)
        | (go_at_call 27; refine (wordX_any hR Les.one (fun r hr => by simp [hr]) hS hok2 hl2).mono ?_; rw [H3.out]; rintro e w' ⟨rfl, cs3, hR3, hS3⟩; clear hR hS; have hR := hR3; have hS := hS3; clear hR3 hS3)
        | ((with_reducible apply wpList_put1 hR tWordP); exact rfl; exact rfl; exact rfl; (focus (repeat (first | apply List.Mem.head | apply List.Mem.tail | apply List.mem_append_right))); (exact put_pf _ _); (simp [encPub]); exact rfl; (focus (repeat (first | apply Upd.head | apply Upd.tail | apply Upd.skipC))); clear hR; intro w hR)
        | ((with_reducible apply wpList_func); exact rfl; exact rfl; simp only [List.set_cons_succ, List.set_cons_zero])
        | (go_at_call 28; refine (allP_any hR Les.one (fun r hr => by simp [hr]) (K := [pubK go ⟨x, y, f, [], 0⟩, srcK gc g]) (fun r hr => by rcases List.mem_cons.1 hr with e | hr; (subst e; exact .head _); rw [List.mem_singleton.1 hr]; exact .tail _ (.head _)) hS hok3 hl3 Try.call29 (givenC_any w0 g gc go sr ⟨x, y, f, [], 0⟩ ⟨rfl, rfl⟩) (lessG _ _ _)).mono ?_; rintro e w' ⟨s, v2, rfl, hO, hV⟩)
        | ((with_reducible apply q_ls hR); exact rfl; ((with_reducible first | apply t_addr (fRec _ (by decide)) | apply t_addr (fPub _ (by decide)) | apply t_addr (fExt _ (by decide)) | apply t_one tByteR | apply t_one tSlR | apply t_one tIntR | apply t_one tWordP | apply t_one tNumX | apply t_one tStrO | apply t_part tPub | apply t_part tExt) <;> (first | (apply EvC.gv; exact rfl; (with_reducible first | exact Imp.refl _ | (apply Imp.left; exact Imp.refl _) | (apply Imp.right; exact Imp.refl _) | (apply Imp.left; apply Imp.left; exact Imp.refl _))) | (apply EvC.now; exact rfl) | exact rfl | (with_reducible exact EvAll.nil) | (focus (repeat (first | apply EvAll.cons | exact EvAll.nil | (apply EvC.gv; exact rfl; (with_reducible first | exact Imp.refl _ | (apply Imp.left; exact Imp.refl _) | (apply Imp.right; exact Imp.refl _) | (apply Imp.left; apply Imp.left; exact Imp.refl _))) | (apply EvC.now; exact rfl))); done) | (first | exact ext_pub _ | exact ext_ext _) | (focus (repeat (first | apply List.Mem.head | apply List.Mem.tail | apply List.mem_append_right))))); (simp only [List.set_cons_succ, List.set_cons_zero]; exact rfl); clear hR; intro w hR))
      go_ret2
      rw [HV.out]
      exact ⟨s, v2, rfl, hO, hV⟩
    · have HIS : Hid (∀ w : World, Calls Try.prog 26 #[.int .i64 y] w fun e w' => e = .returned (.bool true) ∧ Below w.heap.size w w') := Lib.hid fun w => by have := isSeg_any y w; rwa [decide_eq_true (by omega)] at this
      rw [hH3] at hv
      dsimp only at hv
      have HV := Lib.hid hv
      clear hH3 hy hyb hv hH
      go_wp2_with (first
        | ((with_reducible apply q_ls hR); exact rfl; (with_reducible apply t_one tPS); (apply EvC.now; exact rfl); (focus (repeat (first | apply List.Mem.head | apply List.Mem.tail | apply List.mem_append_right))); exact rfl; (simp only [List.set_cons_succ, List.set_cons_zero]; exact rfl); clear hR; intro w hR)
        | (go_at_call 26; refine (HIS.out _).mono ?_; rintro e w' ⟨rfl, hb⟩; replace hR := hR.grow hb; clear hb)
        | ((with_reducible apply wpList_func); exact rfl; exact rfl; simp only [List.set_cons_succ, List.set_cons_zero])
        | (go_at_call 28; refine (allP_any hR Les.one (fun r hr => by simp [hr]) (K := [pubK go ⟨x, y, 0, [], 0⟩, srcK gc g]) (fun r hr => by rcases List.mem_cons.1 hr with e | hr; (subst e; exact .head _); rw [List.mem_singleton.1 hr]; exact .tail _ (.head _)) hS hok2 hl2 Try.call29 (givenC_any w0 g gc go sr ⟨x, y, 0, [], 0⟩ ⟨rfl, rfl⟩) (lessG _ _ _)).mono ?_; rintro e w' ⟨s, v2, rfl, hO, hV⟩)
        | ((with_reducible apply q_ls hR); exact rfl; ((with_reducible first | apply t_addr (fRec _ (by decide)) | apply t_addr (fPub _ (by decide)) | apply t_addr (fExt _ (by decide)) | apply t_one tByteR | apply t_one tSlR | apply t_one tIntR | apply t_one tWordP | apply t_one tNumX | apply t_one tStrO | apply t_part tPub | apply t_part tExt) <;> (first | (apply EvC.gv; exact rfl; (with_reducible first | exact Imp.refl _ | (apply Imp.left; exact Imp.refl _) | (apply Imp.right; exact Imp.refl _) | (apply Imp.left; apply Imp.left; exact Imp.refl _))) | (apply EvC.now; exact rfl) | exact rfl | (with_reducible exact EvAll.nil) | (focus (repeat (first | apply EvAll.cons | exact EvAll.nil | (apply EvC.gv; exact rfl; (with_reducible first | exact Imp.refl _ | (apply Imp.left; exact Imp.refl _) | (apply Imp.right; exact Imp.refl _) | (apply Imp.left; apply Imp.left; exact Imp.refl _))) | (apply EvC.now; exact rfl))); done) | (first | exact ext_pub _ | exact ext_ext _) | (focus (repeat (first | apply List.Mem.head | apply List.Mem.tail | apply List.mem_append_right))))); (simp only [List.set_cons_succ, List.set_cons_zero]; exact rfl); clear hR; intro w hR))
      go_ret2
      rw [HV.out]
      exact ⟨s, v2, rfl, hO, hV⟩
end Go.Proofs.Ytmiakniilimghaa
