









/- Package pubs: the closure of Made. No statement of the seat is proved here. -/
import Derived.Test.YtmiakniilimghaaPubE
namespace Go.Proofs.Ytmiakniilimghaa
open Go.ChangeShapes Go.WideShapes Go.ChangeAt Go.RowKit
set_option linter.unusedVariables false
set_option linter.unusedSimpArgs false

theorem bExt2 (t : List Int) (c : Int) : Built Try.prog 44 [(0, .string (strOfNums t)), (1, .int .i64 c)] (encExt ⟨t, c, 0⟩) := ⟨by kernel_rfl⟩
theorem put_xl (x : ExtZ) (m : Nat) : PutRel (encExt x) 2 [.int .u32 m] (encExt { x with l := m }) := ⟨rfl⟩
def stepM (z : SrcZ) : ExtZ × SrcZ := (⟨(nameZ z).1, (madC z).1, ((madL (madC z).1 (madC z).2).1 % 4294967296).toNat⟩, madG (madL (madC z).1 (madC z).2))
set_option maxHeartbeats 1000000 in
theorem madeC_any (w0 : World) (g gc : Nat) (sr : List RowT) : NextQ w0 g sr [srcK gc g] 36 #[.pointer (some ⟨gc, 0, none⟩)] fun z => (.agg (encExt (stepM z).1), (stepM z).2) := by
  intro w l X cs z hO hd hY hK hS hok hl
  have hR : Own w0 w ((g, cs, 76) :: X) := hO.les hd
  clear hO hd
  have hKm : (gc, #[Value.pointer (some ⟨g, 0, none⟩)], 58) ∈ X := hK _ (.head _)
  have g1 := (name_goes z).trans (index_goes (nameZ z).2)
  have hok2 := g1.ok hok
  have hl2 := Nat.le_trans g1.len hl
  have hok3 := (num_goes (indexZ (nameZ z).2).2 1).ok hok2
  have hl3 := Nat.le_trans (num_goes (indexZ (nameZ z).2).2 1).len hl2
  have hnb := byte_bd hok2
  have hvv : stepM z = (⟨(nameZ z).1, (numZ (indexZ (nameZ z).2).2 1).1, ((madL (numZ (indexZ (nameZ z).2).2 1).1 (numZ (indexZ (nameZ z).2).2 1).2).1 % 4294967296).toNat⟩, madG (madL (numZ (indexZ (nameZ z).2).2 1).1 (numZ (indexZ (nameZ z).2).2 1).2)) := rfl
  obtain ⟨t, h1⟩ : ∃ q, (nameZ z).1 = q := ⟨_, rfl⟩
  obtain ⟨z2, h2⟩ : ∃ q, (indexZ (nameZ z).2).2 = q := ⟨_, rfl⟩
  rw [h2] at hok2 hl2 hok3 hl3 hnb
  rw [h1, h2] at hvv
  obtain ⟨⟨c, z3⟩, h3⟩ : ∃ q, numZ z2 1 = q := ⟨_, rfl⟩
  rw [h3] at hok3 hl3 hvv hnb
  dsimp only at hok3 hl3 hvv hnb
  obtain ⟨o, h4⟩ : ∃ q, (madL c z3).1 % 4294967296 = q := ⟨_, rfl⟩
  obtain ⟨z4, h5⟩ : ∃ q, madG (madL c z3) = q := ⟨_, rfl⟩
  rw [h4, h5] at hvv
  obtain ⟨m, rfl⟩ := Int.eq_ofNat_of_zero_le (show 0 ≤ o by rw [← h4]; omega)
  rw [Int.toNat_natCast] at hvv
  have HV := Lib.hid hvv
  have H1 := Lib.hid h1
  have H2 := Lib.hid h2
  have H3 := Lib.hid h3
  have H4 := Lib.hid h4
  have H5 := Lib.hid h5
  have HC := Lib.hid (show IntKind.i64.wrap c = c from IntWalk.i64_in _ (by omega))
  dsimp only
  clear hvv h1 h2 h3 h4 h5 hnb g1
  go_enter Try.func36, Try.ntmps36
  go_upto_region 1 with (first
    | ((with_reducible apply wpList_make hR zExt); exact rfl; clear hR; intro gr w hR; simp only [List.set_cons_succ, List.set_cons_zero]))
  replace hR := hR.les (Les.tail Les.one)
  refine wp_region_some hR [(gc, #[Value.pointer (some ⟨g, 0, none⟩)], 58)] (List.singleton_sublist.2 (by (focus (repeat (first | exact hKm | apply List.Mem.head | apply List.Mem.tail | apply List.mem_append_right))))) [0, 2] 6 (by kernel_rfl) (by kernel_rfl) (by kernel_rfl) rfl ?_
  clear hR; intro hR
  repeat (refine wpT_step rfl ?_; first
    | ((with_reducible apply q_pl); (with_reducible apply t_one tPS); (apply EvC.now; exact rfl); (focus (repeat (first | apply List.Mem.head | apply List.Mem.tail | apply List.mem_append_right))); exact rfl; (simp only [List.set_cons_succ, List.set_cons_zero]; exact rfl)))
  refine wpT_nil ?_
  refine wpG_two hR (i := 1) (j := 6) (by kernel_rfl) ?_ ?_
  · skip
    clear hR; intro w hR
    refine opCallO hR Try.call34 rfl rfl rfl ?_
    refine (nameQ_any hR Les.one (fun r hr => by simp [hY r hr]) hS hok hl).mono ?_
    rw [H1.out, H2.out]
    rintro e w' ⟨rfl, cs2, hR2, hS2⟩
    clear hR hS; have hR := hR2; have hS := hS2; clear hR2 hS2
    refine ⟨_, rfl, hR.drop (List.singleton_sublist.2 (by (focus (repeat (first | exact hKm | apply List.Mem.head | apply List.Mem.tail | apply List.mem_append_right))))), ?_⟩
    simp only [List.set_cons_succ, List.set_cons_zero]
    refine wpG_two hR (i := 3) (j := 6) (by kernel_rfl) ?_ ?_
    · skip
      clear hR; intro w hR
      refine opCallO hR Try.call37 rfl rfl rfl ?_
      refine (byteX_any hR Les.one (fun r hr => by simp [hY r hr]) hS hok2 hl2).mono ?_
      rw [H3.out]
      rintro e w' ⟨rfl, cs2, hR2, hS2⟩
      clear hR hS; have hR := hR2; have hS := hS2; clear hR2 hS2
      refine ⟨_, rfl, hR.drop (List.singleton_sublist.2 (by (focus (repeat (first | exact hKm | apply List.Mem.head | apply List.Mem.tail | apply List.mem_append_right))))), ?_⟩
      simp only [List.set_cons_succ, List.set_cons_zero]
      refine wpG_two hR (i := 4) (j := 6) (by kernel_rfl) ?_ ?_
      · skip
        clear hR; intro w hR
        refine opQ hR rfl rfl (t_conv Try.underlying5 Try.underlying3 (EvC.now rfl) HC.out) (by (simp only [List.set_cons_succ, List.set_cons_zero]; exact rfl)) ?_
        clear hR; intro w hR
        refine ⟨hR.drop (List.singleton_sublist.2 (by (focus (repeat (first | exact hKm | apply List.Mem.head | apply List.Mem.tail | apply List.mem_append_right))))), ?_⟩
        refine wpG_two hR (i := 5) (j := 6) (by kernel_rfl) ?_ ?_
        · skip
          clear hR; intro w hR
          refine opQ hR rfl rfl (t_built rfl (bExt2 _ _)) (by (simp only [List.set_cons_succ, List.set_cons_zero]; exact rfl)) ?_
          clear hR; intro w hR
          refine ⟨hR.drop (List.singleton_sublist.2 (by (focus (repeat (first | exact hKm | apply List.Mem.head | apply List.Mem.tail | apply List.mem_append_right))))), ?_⟩
          refine wpG_one hR (i := 6) (by kernel_rfl) ?_
          clear hR; intro w hR
          refine opMake hR zExt rfl ?_
          clear hR; intro gx w hR
          replace hR := hR.les (Les.tail Les.one)
          refine ⟨hR.drop (List.singleton_sublist.2 (by (focus (repeat (first | exact hKm | apply List.Mem.head | apply List.Mem.tail | apply List.mem_append_right))))), ?_⟩
          simp only [List.set_cons_succ, List.set_cons_zero]
          refine wpG_put hR tExt (i := 7) (by kernel_rfl) rfl rfl rfl (by (focus (repeat (first | apply List.Mem.head | apply List.Mem.tail | apply List.mem_append_right)))) (put_ext _ _) rfl (by simp [encExt]) (one_ext _) (by (focus (repeat (first | apply Upd.head | apply Upd.tail | apply Upd.skipC)))) (List.singleton_sublist.2 (by (focus (repeat (first | exact hKm | apply List.Mem.head | apply List.Mem.tail | apply List.mem_append_right))))) ?_
          clear hR; intro w hR
          refine wpG_end hR (by kernel_rfl) ?_
          clear hR; intro w hR
          go_wp2_with (first
              | ((with_reducible apply q_ls hR); exact rfl; (with_reducible apply t_one tPS); (apply EvC.now; exact rfl); (focus (repeat (first | exact hKm | apply List.Mem.head | apply List.Mem.tail | apply List.mem_append_right))); exact rfl; (simp only [List.set_cons_succ, List.set_cons_zero]; exact rfl); clear hR; intro w hR)
              | (go_at_call 38; refine (lengthQ_any hR Les.one (fun r hr => by simp [hY r hr]) hS hok3 hl3 c).mono ?_; rw [H4.out, H5.out]; rintro e w' ⟨rfl, cs3, hR3, hS3⟩; clear hR hS; have hR := hR3; clear hR3)
              | ((with_reducible apply wpList_put1 hR tNumX); exact rfl; exact rfl; exact rfl; (focus (repeat (first | apply List.Mem.head | apply List.Mem.tail | apply List.mem_append_right))); (exact put_xl _ _); (simp [encExt]); exact rfl; (focus (repeat (first | apply Upd.head | apply Upd.tail | apply Upd.skipC))); clear hR; intro w hR)
              | ((with_reducible apply wpList_put hR tExt); exact rfl; exact rfl; exact rfl; (focus (repeat (first | apply List.Mem.head | apply List.Mem.tail | apply List.mem_append_right))); exact put_ext _ _; exact rfl; simp [encExt]; exact one_ext _; (focus (repeat (first | apply Upd.head | apply Upd.tail | apply Upd.skipC))); clear hR; intro w hR)
              | ((with_reducible apply q_ls hR); exact rfl; ((with_reducible first | apply t_addr (fRec _ (by decide)) | apply t_addr (fPub _ (by decide)) | apply t_addr (fExt _ (by decide)) | apply t_one tByteR | apply t_one tSlR | apply t_one tIntR | apply t_one tWordP | apply t_one tNumX | apply t_one tStrO | apply t_part tPub | apply t_part tExt) <;> (first | (apply EvC.gv; exact rfl; (with_reducible first | exact Imp.refl _ | (apply Imp.left; exact Imp.refl _) | (apply Imp.right; exact Imp.refl _) | (apply Imp.left; apply Imp.left; exact Imp.refl _))) | (apply EvC.now; exact rfl) | exact rfl | (with_reducible exact EvAll.nil) | (focus (repeat (first | apply EvAll.cons | exact EvAll.nil | (apply EvC.gv; exact rfl; (with_reducible first | exact Imp.refl _ | (apply Imp.left; exact Imp.refl _) | (apply Imp.right; exact Imp.refl _) | (apply Imp.left; apply Imp.left; exact Imp.refl _))) | (apply EvC.now; exact rfl))); done) | (first | exact ext_pub _ | exact ext_ext _) | (focus (repeat (first | apply List.Mem.head | apply List.Mem.tail | apply List.mem_append_right))))); (simp only [List.set_cons_succ, List.set_cons_zero]; exact rfl); clear hR; intro w hR))
          (try simp only [Exit.inBlock, Exit.then])
          exact post_row hR rfl (by rfl) (by (focus (repeat (first | apply List.Mem.head | apply List.Mem.tail | apply List.mem_append_right)))) Try.underlying44 rfl iExt (by rfl) (by rfl) ⟨by rw [HV.out], by rw [HV.out]; exact ⟨cs3, hR.drop (.cons_cons _ (.cons _ (.cons _ (.refl _)))), hS3⟩⟩
        · skip
          clear hR; intro w hR
          refine opMake hR zExt rfl ?_
          clear hR; intro gx w hR
          replace hR := hR.les (Les.tail Les.one)
          refine ⟨hR.drop (List.singleton_sublist.2 (by (focus (repeat (first | exact hKm | apply List.Mem.head | apply List.Mem.tail | apply List.mem_append_right))))), ?_⟩
          simp only [List.set_cons_succ, List.set_cons_zero]
          refine wpG_q hR (i := 5) (by kernel_rfl) rfl rfl (t_built rfl (bExt2 _ _)) (by (simp only [List.set_cons_succ, List.set_cons_zero]; exact rfl)) (List.singleton_sublist.2 (by (focus (repeat (first | exact hKm | apply List.Mem.head | apply List.Mem.tail | apply List.mem_append_right))))) ?_
          clear hR; intro w hR
          refine wpG_put hR tExt (i := 7) (by kernel_rfl) rfl rfl rfl (by (focus (repeat (first | apply List.Mem.head | apply List.Mem.tail | apply List.mem_append_right)))) (put_ext _ _) rfl (by simp [encExt]) (one_ext _) (by (focus (repeat (first | apply Upd.head | apply Upd.tail | apply Upd.skipC)))) (List.singleton_sublist.2 (by (focus (repeat (first | exact hKm | apply List.Mem.head | apply List.Mem.tail | apply List.mem_append_right))))) ?_
          clear hR; intro w hR
          refine wpG_end hR (by kernel_rfl) ?_
          clear hR; intro w hR
          go_wp2_with (first
              | ((with_reducible apply q_ls hR); exact rfl; (with_reducible apply t_one tPS); (apply EvC.now; exact rfl); (focus (repeat (first | exact hKm | apply List.Mem.head | apply List.Mem.tail | apply List.mem_append_right))); exact rfl; (simp only [List.set_cons_succ, List.set_cons_zero]; exact rfl); clear hR; intro w hR)
              | (go_at_call 38; refine (lengthQ_any hR Les.one (fun r hr => by simp [hY r hr]) hS hok3 hl3 c).mono ?_; rw [H4.out, H5.out]; rintro e w' ⟨rfl, cs3, hR3, hS3⟩; clear hR hS; have hR := hR3; clear hR3)
              | ((with_reducible apply wpList_put1 hR tNumX); exact rfl; exact rfl; exact rfl; (focus (repeat (first | apply List.Mem.head | apply List.Mem.tail | apply List.mem_append_right))); (exact put_xl _ _); (simp [encExt]); exact rfl; (focus (repeat (first | apply Upd.head | apply Upd.tail | apply Upd.skipC))); clear hR; intro w hR)
              | ((with_reducible apply wpList_put hR tExt); exact rfl; exact rfl; exact rfl; (focus (repeat (first | apply List.Mem.head | apply List.Mem.tail | apply List.mem_append_right))); exact put_ext _ _; exact rfl; simp [encExt]; exact one_ext _; (focus (repeat (first | apply Upd.head | apply Upd.tail | apply Upd.skipC))); clear hR; intro w hR)
              | ((with_reducible apply q_ls hR); exact rfl; ((with_reducible first | apply t_addr (fRec _ (by decide)) | apply t_addr (fPub _ (by decide)) | apply t_addr (fExt _ (by decide)) | apply t_one tByteR | apply t_one tSlR | apply t_one tIntR | apply t_one tWordP | apply t_one tNumX | apply t_one tStrO | apply t_part tPub | apply t_part tExt) <;> (first | (apply EvC.gv; exact rfl; (with_reducible first | exact Imp.refl _ | (apply Imp.left; exact Imp.refl _) | (apply Imp.right; exact Imp.refl _) | (apply Imp.left; apply Imp.left; exact Imp.refl _))) | (apply EvC.now; exact rfl) | exact rfl | (with_reducible exact EvAll.nil) | (focus (repeat (first | apply EvAll.cons | exact EvAll.nil | (apply EvC.gv; exact rfl; (with_reducible first | exact Imp.refl _ | (apply Imp.left; exact Imp.refl _) | (apply Imp.right; exact Imp.refl _) | (apply Imp.left; apply Imp.left; exact Imp.refl _))) | (apply EvC.now; exact rfl))); done) | (first | exact ext_pub _ | exact ext_ext _) | (focus (repeat (first | apply List.Mem.head | apply List.Mem.tail | apply List.mem_append_right))))); (simp only [List.set_cons_succ, List.set_cons_zero]; exact rfl); clear hR; intro w hR))
          (try simp only [Exit.inBlock, Exit.then])
          exact post_row hR rfl (by rfl) (by (focus (repeat (first | apply List.Mem.head | apply List.Mem.tail | apply List.mem_append_right)))) Try.underlying44 rfl iExt (by rfl) (by rfl) ⟨by rw [HV.out], by rw [HV.out]; exact ⟨cs3, hR.drop (.cons_cons _ (.cons _ (.cons _ (.refl _)))), hS3⟩⟩
      · skip
        clear hR; intro w hR
        refine opMake hR zExt rfl ?_
        clear hR; intro gx w hR
        replace hR := hR.les (Les.tail Les.one)
        refine ⟨hR.drop (List.singleton_sublist.2 (by (focus (repeat (first | exact hKm | apply List.Mem.head | apply List.Mem.tail | apply List.mem_append_right))))), ?_⟩
        simp only [List.set_cons_succ, List.set_cons_zero]
        refine wpG_q hR (i := 4) (by kernel_rfl) rfl rfl (t_conv Try.underlying5 Try.underlying3 (EvC.now rfl) HC.out) (by (simp only [List.set_cons_succ, List.set_cons_zero]; exact rfl)) (List.singleton_sublist.2 (by (focus (repeat (first | exact hKm | apply List.Mem.head | apply List.Mem.tail | apply List.mem_append_right))))) ?_
        clear hR; intro w hR
        refine wpG_q hR (i := 5) (by kernel_rfl) rfl rfl (t_built rfl (bExt2 _ _)) (by (simp only [List.set_cons_succ, List.set_cons_zero]; exact rfl)) (List.singleton_sublist.2 (by (focus (repeat (first | exact hKm | apply List.Mem.head | apply List.Mem.tail | apply List.mem_append_right))))) ?_
        clear hR; intro w hR
        refine wpG_put hR tExt (i := 7) (by kernel_rfl) rfl rfl rfl (by (focus (repeat (first | apply List.Mem.head | apply List.Mem.tail | apply List.mem_append_right)))) (put_ext _ _) rfl (by simp [encExt]) (one_ext _) (by (focus (repeat (first | apply Upd.head | apply Upd.tail | apply Upd.skipC)))) (List.singleton_sublist.2 (by (focus (repeat (first | exact hKm | apply List.Mem.head | apply List.Mem.tail | apply List.mem_append_right))))) ?_
        clear hR; intro w hR
        refine wpG_end hR (by kernel_rfl) ?_
        clear hR; intro w hR
        go_wp2_with (first
            | ((with_reducible apply q_ls hR); exact rfl; (with_reducible apply t_one tPS); (apply EvC.now; exact rfl); (focus (repeat (first | exact hKm | apply List.Mem.head | apply List.Mem.tail | apply List.mem_append_right))); exact rfl; (simp only [List.set_cons_succ, List.set_cons_zero]; exact rfl); clear hR; intro w hR)
            | (go_at_call 38; refine (lengthQ_any hR Les.one (fun r hr => by simp [hY r hr]) hS hok3 hl3 c).mono ?_; rw [H4.out, H5.out]; rintro e w' ⟨rfl, cs3, hR3, hS3⟩; clear hR hS; have hR := hR3; clear hR3)
            | ((with_reducible apply wpList_put1 hR tNumX); exact rfl; exact rfl; exact rfl; (focus (repeat (first | apply List.Mem.head | apply List.Mem.tail | apply List.mem_append_right))); (exact put_xl _ _); (simp [encExt]); exact rfl; (focus (repeat (first | apply Upd.head | apply Upd.tail | apply Upd.skipC))); clear hR; intro w hR)
            | ((with_reducible apply wpList_put hR tExt); exact rfl; exact rfl; exact rfl; (focus (repeat (first | apply List.Mem.head | apply List.Mem.tail | apply List.mem_append_right))); exact put_ext _ _; exact rfl; simp [encExt]; exact one_ext _; (focus (repeat (first | apply Upd.head | apply Upd.tail | apply Upd.skipC))); clear hR; intro w hR)
            | ((with_reducible apply q_ls hR); exact rfl; ((with_reducible first | apply t_addr (fRec _ (by decide)) | apply t_addr (fPub _ (by decide)) | apply t_addr (fExt _ (by decide)) | apply t_one tByteR | apply t_one tSlR | apply t_one tIntR | apply t_one tWordP | apply t_one tNumX | apply t_one tStrO | apply t_part tPub | apply t_part tExt) <;> (first | (apply EvC.gv; exact rfl; (with_reducible first | exact Imp.refl _ | (apply Imp.left; exact Imp.refl _) | (apply Imp.right; exact Imp.refl _) | (apply Imp.left; apply Imp.left; exact Imp.refl _))) | (apply EvC.now; exact rfl) | exact rfl | (with_reducible exact EvAll.nil) | (focus (repeat (first | apply EvAll.cons | exact EvAll.nil | (apply EvC.gv; exact rfl; (with_reducible first | exact Imp.refl _ | (apply Imp.left; exact Imp.refl _) | (apply Imp.right; exact Imp.refl _) | (apply Imp.left; apply Imp.left; exact Imp.refl _))) | (apply EvC.now; exact rfl))); done) | (first | exact ext_pub _ | exact ext_ext _) | (focus (repeat (first | apply List.Mem.head | apply List.Mem.tail | apply List.mem_append_right))))); (simp only [List.set_cons_succ, List.set_cons_zero]; exact rfl); clear hR; intro w hR))
        (try simp only [Exit.inBlock, Exit.then])
        exact post_row hR rfl (by rfl) (by (focus (repeat (first | apply List.Mem.head | apply List.Mem.tail | apply List.mem_append_right)))) Try.underlying44 rfl iExt (by rfl) (by rfl) ⟨by rw [HV.out], by rw [HV.out]; exact ⟨cs3, hR.drop (.cons_cons _ (.cons _ (.cons _ (.refl _)))), hS3⟩⟩
    · skip
      clear hR; intro w hR
      refine opMake hR zExt rfl ?_
      clear hR; intro gx w hR
      replace hR := hR.les (Les.tail Les.one)
      refine ⟨hR.drop (List.singleton_sublist.2 (by (focus (repeat (first | exact hKm | apply List.Mem.head | apply List.Mem.tail | apply List.mem_append_right))))), ?_⟩
      simp only [List.set_cons_succ, List.set_cons_zero]
      refine wpG_callO hR (i := 3) (by kernel_rfl) Try.call37 rfl rfl rfl ?_
      clear hR; intro w hR
      refine (byteX_any hR Les.one (fun r hr => by simp [hY r hr]) hS hok2 hl2).mono ?_
      rw [H3.out]
      rintro e w' ⟨rfl, cs2, hR2, hS2⟩
      clear hR hS; have hR := hR2; have hS := hS2; clear hR2 hS2
      refine ⟨_, rfl, hR.drop (List.singleton_sublist.2 (by (focus (repeat (first | exact hKm | apply List.Mem.head | apply List.Mem.tail | apply List.mem_append_right))))), ?_⟩
      simp only [List.set_cons_succ, List.set_cons_zero]
      refine wpG_q hR (i := 4) (by kernel_rfl) rfl rfl (t_conv Try.underlying5 Try.underlying3 (EvC.now rfl) HC.out) (by (simp only [List.set_cons_succ, List.set_cons_zero]; exact rfl)) (List.singleton_sublist.2 (by (focus (repeat (first | exact hKm | apply List.Mem.head | apply List.Mem.tail | apply List.mem_append_right))))) ?_
      clear hR; intro w hR
      refine wpG_q hR (i := 5) (by kernel_rfl) rfl rfl (t_built rfl (bExt2 _ _)) (by (simp only [List.set_cons_succ, List.set_cons_zero]; exact rfl)) (List.singleton_sublist.2 (by (focus (repeat (first | exact hKm | apply List.Mem.head | apply List.Mem.tail | apply List.mem_append_right))))) ?_
      clear hR; intro w hR
      refine wpG_put hR tExt (i := 7) (by kernel_rfl) rfl rfl rfl (by (focus (repeat (first | apply List.Mem.head | apply List.Mem.tail | apply List.mem_append_right)))) (put_ext _ _) rfl (by simp [encExt]) (one_ext _) (by (focus (repeat (first | apply Upd.head | apply Upd.tail | apply Upd.skipC)))) (List.singleton_sublist.2 (by (focus (repeat (first | exact hKm | apply List.Mem.head | apply List.Mem.tail | apply List.mem_append_right))))) ?_
      clear hR; intro w hR
      refine wpG_end hR (by kernel_rfl) ?_
      clear hR; intro w hR
      go_wp2_with (first
          | ((with_reducible apply q_ls hR); exact rfl; (with_reducible apply t_one tPS); (apply EvC.now; exact rfl); (focus (repeat (first | exact hKm | apply List.Mem.head | apply List.Mem.tail | apply List.mem_append_right))); exact rfl; (simp only [List.set_cons_succ, List.set_cons_zero]; exact rfl); clear hR; intro w hR)
          | (go_at_call 38; refine (lengthQ_any hR Les.one (fun r hr => by simp [hY r hr]) hS hok3 hl3 c).mono ?_; rw [H4.out, H5.out]; rintro e w' ⟨rfl, cs3, hR3, hS3⟩; clear hR hS; have hR := hR3; clear hR3)
          | ((with_reducible apply wpList_put1 hR tNumX); exact rfl; exact rfl; exact rfl; (focus (repeat (first | apply List.Mem.head | apply List.Mem.tail | apply List.mem_append_right))); (exact put_xl _ _); (simp [encExt]); exact rfl; (focus (repeat (first | apply Upd.head | apply Upd.tail | apply Upd.skipC))); clear hR; intro w hR)
          | ((with_reducible apply wpList_put hR tExt); exact rfl; exact rfl; exact rfl; (focus (repeat (first | apply List.Mem.head | apply List.Mem.tail | apply List.mem_append_right))); exact put_ext _ _; exact rfl; simp [encExt]; exact one_ext _; (focus (repeat (first | apply Upd.head | apply Upd.tail | apply Upd.skipC))); clear hR; intro w hR)
          | ((with_reducible apply q_ls hR); exact rfl; ((with_reducible first | apply t_addr (fRec _ (by decide)) | apply t_addr (fPub _ (by decide)) | apply t_addr (fExt _ (by decide)) | apply t_one tByteR | apply t_one tSlR | apply t_one tIntR | apply t_one tWordP | apply t_one tNumX | apply t_one tStrO | apply t_part tPub | apply t_part tExt) <;> (first | (apply EvC.gv; exact rfl; (with_reducible first | exact Imp.refl _ | (apply Imp.left; exact Imp.refl _) | (apply Imp.right; exact Imp.refl _) | (apply Imp.left; apply Imp.left; exact Imp.refl _))) | (apply EvC.now; exact rfl) | exact rfl | (with_reducible exact EvAll.nil) | (focus (repeat (first | apply EvAll.cons | exact EvAll.nil | (apply EvC.gv; exact rfl; (with_reducible first | exact Imp.refl _ | (apply Imp.left; exact Imp.refl _) | (apply Imp.right; exact Imp.refl _) | (apply Imp.left; apply Imp.left; exact Imp.refl _))) | (apply EvC.now; exact rfl))); done) | (first | exact ext_pub _ | exact ext_ext _) | (focus (repeat (first | apply List.Mem.head | apply List.Mem.tail | apply List.mem_append_right))))); (simp only [List.set_cons_succ, List.set_cons_zero]; exact rfl); clear hR; intro w hR))
      (try simp only [Exit.inBlock, Exit.then])
      exact post_row hR rfl (by rfl) (by (focus (repeat (first | apply List.Mem.head | apply List.Mem.tail | apply List.mem_append_right)))) Try.underlying44 rfl iExt (by rfl) (by rfl) ⟨by rw [HV.out], by rw [HV.out]; exact ⟨cs3, hR.drop (.cons_cons _ (.cons _ (.cons _ (.refl _)))), hS3⟩⟩
  · skip
    clear hR; intro w hR
    refine opMake hR zExt rfl ?_
    clear hR; intro gx w hR
    replace hR := hR.les (Les.tail Les.one)
    refine ⟨hR.drop (List.singleton_sublist.2 (by (focus (repeat (first | exact hKm | apply List.Mem.head | apply List.Mem.tail | apply List.mem_append_right))))), ?_⟩
    simp only [List.set_cons_succ, List.set_cons_zero]
    refine wpG_callO hR (i := 1) (by kernel_rfl) Try.call34 rfl rfl rfl ?_
    clear hR; intro w hR
    refine (nameQ_any hR Les.one (fun r hr => by simp [hY r hr]) hS hok hl).mono ?_
    rw [H1.out, H2.out]
    rintro e w' ⟨rfl, cs2, hR2, hS2⟩
    clear hR hS; have hR := hR2; have hS := hS2; clear hR2 hS2
    refine ⟨_, rfl, hR.drop (List.singleton_sublist.2 (by (focus (repeat (first | exact hKm | apply List.Mem.head | apply List.Mem.tail | apply List.mem_append_right))))), ?_⟩
    simp only [List.set_cons_succ, List.set_cons_zero]
    refine wpG_callO hR (i := 3) (by kernel_rfl) Try.call37 rfl rfl rfl ?_
    clear hR; intro w hR
    refine (byteX_any hR Les.one (fun r hr => by simp [hY r hr]) hS hok2 hl2).mono ?_
    rw [H3.out]
    rintro e w' ⟨rfl, cs2, hR2, hS2⟩
    clear hR hS; have hR := hR2; have hS := hS2; clear hR2 hS2
    refine ⟨_, rfl, hR.drop (List.singleton_sublist.2 (by (focus (repeat (first | exact hKm | apply List.Mem.head | apply List.Mem.tail | apply List.mem_append_right))))), ?_⟩
    simp only [List.set_cons_succ, List.set_cons_zero]
    refine wpG_q hR (i := 4) (by kernel_rfl) rfl rfl (t_conv Try.underlying5 Try.underlying3 (EvC.now rfl) HC.out) (by (simp only [List.set_cons_succ, List.set_cons_zero]; exact rfl)) (List.singleton_sublist.2 (by (focus (repeat (first | exact hKm | apply List.Mem.head | apply List.Mem.tail | apply List.mem_append_right))))) ?_
    clear hR; intro w hR
    refine wpG_q hR (i := 5) (by kernel_rfl) rfl rfl (t_built rfl (bExt2 _ _)) (by (simp only [List.set_cons_succ, List.set_cons_zero]; exact rfl)) (List.singleton_sublist.2 (by (focus (repeat (first | exact hKm | apply List.Mem.head | apply List.Mem.tail | apply List.mem_append_right))))) ?_
    clear hR; intro w hR
    refine wpG_put hR tExt (i := 7) (by kernel_rfl) rfl rfl rfl (by (focus (repeat (first | apply List.Mem.head | apply List.Mem.tail | apply List.mem_append_right)))) (put_ext _ _) rfl (by simp [encExt]) (one_ext _) (by (focus (repeat (first | apply Upd.head | apply Upd.tail | apply Upd.skipC)))) (List.singleton_sublist.2 (by (focus (repeat (first | exact hKm | apply List.Mem.head | apply List.Mem.tail | apply List.mem_append_right))))) ?_
    clear hR; intro w hR
    refine wpG_end hR (by kernel_rfl) ?_
    clear hR; intro w hR
    go_wp2_with (first
        | ((with_reducible apply q_ls hR); exact rfl; (with_reducible apply t_one tPS); (apply EvC.now; exact rfl); (focus (repeat (first | exact hKm | apply List.Mem.head | apply List.Mem.tail | apply List.mem_append_right))); exact rfl; (simp only [List.set_cons_succ, List.set_cons_zero]; exact rfl); clear hR; intro w hR)
        | (go_at_call 38; refine (lengthQ_any hR Les.one (fun r hr => by simp [hY r hr]) hS hok3 hl3 c).mono ?_; rw [H4.out, H5.out]; rintro e w' ⟨rfl, cs3, hR3, hS3⟩; clear hR hS; have hR := hR3; clear hR3)
        | ((with_reducible apply wpList_put1 hR tNumX); exact rfl; exact rfl; exact rfl; (focus (repeat (first | apply List.Mem.head | apply List.Mem.tail | apply List.mem_append_right))); (exact put_xl _ _); (simp [encExt]); exact rfl; (focus (repeat (first | apply Upd.head | apply Upd.tail | apply Upd.skipC))); clear hR; intro w hR)
        | ((with_reducible apply wpList_put hR tExt); exact rfl; exact rfl; exact rfl; (focus (repeat (first | apply List.Mem.head | apply List.Mem.tail | apply List.mem_append_right))); exact put_ext _ _; exact rfl; simp [encExt]; exact one_ext _; (focus (repeat (first | apply Upd.head | apply Upd.tail | apply Upd.skipC))); clear hR; intro w hR)
        | ((with_reducible apply q_ls hR); exact rfl; ((with_reducible first | apply t_addr (fRec _ (by decide)) | apply t_addr (fPub _ (by decide)) | apply t_addr (fExt _ (by decide)) | apply t_one tByteR | apply t_one tSlR | apply t_one tIntR | apply t_one tWordP | apply t_one tNumX | apply t_one tStrO | apply t_part tPub | apply t_part tExt) <;> (first | (apply EvC.gv; exact rfl; (with_reducible first | exact Imp.refl _ | (apply Imp.left; exact Imp.refl _) | (apply Imp.right; exact Imp.refl _) | (apply Imp.left; apply Imp.left; exact Imp.refl _))) | (apply EvC.now; exact rfl) | exact rfl | (with_reducible exact EvAll.nil) | (focus (repeat (first | apply EvAll.cons | exact EvAll.nil | (apply EvC.gv; exact rfl; (with_reducible first | exact Imp.refl _ | (apply Imp.left; exact Imp.refl _) | (apply Imp.right; exact Imp.refl _) | (apply Imp.left; apply Imp.left; exact Imp.refl _))) | (apply EvC.now; exact rfl))); done) | (first | exact ext_pub _ | exact ext_ext _) | (focus (repeat (first | apply List.Mem.head | apply List.Mem.tail | apply List.mem_append_right))))); (simp only [List.set_cons_succ, List.set_cons_zero]; exact rfl); clear hR; intro w hR))
    (try simp only [Exit.inBlock, Exit.then])
    exact post_row hR rfl (by rfl) (by (focus (repeat (first | apply List.Mem.head | apply List.Mem.tail | apply List.mem_append_right)))) Try.underlying44 rfl iExt (by rfl) (by rfl) ⟨by rw [HV.out], by rw [HV.out]; exact ⟨cs3, hR.drop (.cons_cons _ (.cons _ (.cons _ (.refl _)))), hS3⟩⟩
end Go.Proofs.Ytmiakniilimghaa
