









/- The contract of segs.Segment. No statement of the seat is proved here. -/
import Derived.Test.YtmdiemebfmnmkaaSegB
import Derived.Test.YtmdiemebfmnmkaaSrcG
namespace Go.Proofs.Ytmdiemebfmnmkaa
open Go.ChangeShapes Go.WideShapes Go.ChangeAt Go.RowKit
set_option linter.unusedVariables false
set_option linter.unusedSimpArgs false

/-- A segment's bytes where it may be. -/
def segP (s : SegZ) : List Int := bif mayS s then segB s else []
theorem ones_b (ns : List Int) : (cellsB ns).all (·.oneCell') = true := by simp [cellsB, List.all_map, Value.oneCell']
theorem idx_more {s : SegZ} {k : Nat} {x : Int} (h : (idxS s)[k]? = some x) : ((idxS s).take (k + 1)).flatMap idxN = ((idxS s).take k).flatMap idxN ++ idxN x := by
  rw [List.take_add_one, h, List.flatMap_append]; simp
theorem idx_most (s : SegZ) (k : Nat) : (((idxS s).take k).flatMap idxN).length ≤ 6 := by
  have h1 := idxN_len s.n; have h2 := idxN_len s.k; have h3 := idxN_len s.v
  match k with
  | 0 => simp
  | 1 => simp [idxS]; omega
  | 2 => simp [idxS]; omega
  | k + 3 => simp [idxS]; omega
theorem idx_all (s : SegZ) : ((idxS s).take 3).flatMap idxN = idxN s.n ++ (idxN s.k ++ idxN s.v) := by simp [idxS]
theorem idx_bd {s : SegZ} (h : MayS s) {k : Nat} {x : Int} (hx : (idxS s)[k]? = some x) : 0 ≤ x ∧ x ≤ 32767 := by
  have hm : x ∈ idxS s := List.mem_of_getElem? hx
  simp only [idxS, List.mem_cons, List.not_mem_nil, or_false] at hm
  rcases hm with rfl | rfl | rfl
  · exact h.n
  · exact h.k
  · exact h.v
set_option maxHeartbeats 2000000 in
theorem segSegment_any (s : SegZ) (ho : s.ok) (w0 : World) :
    Calls Try.prog 7 #[.agg (encSeg s)] w0 fun e w' => RetB w0 w' (fun v => .tuple #[.agg #[.int .u8 (bif mayS s then 152 else 0), v], .bool (mayS s)]) e (segP s) := by
  have hR := Own.start w0
  cases hm : mayS s
  · have HM := Lib.hid (show segP s = [] by unfold segP; rw [hm]; rfl)
    have HC : Hid (∀ w, Calls Try.prog 9 #[.agg (encSeg s)] w fun e w' => e = .returned (.bool false) ∧ Below w.heap.size w w') := Lib.hid fun w => by have := segMay_any s w; rwa [hm] at this
    clear hm
    go_enter Try.func7, Try.ntmps7
    go_wp2_with (first
    | ((with_reducible apply wpList_box hR); exact rfl; exact rfl; clear hR; intro g w hR; simp only [List.set_cons_succ, List.set_cons_zero])
    | ((with_reducible apply wpList_make hR zRec); exact rfl; clear hR; intro g w hR; simp only [List.set_cons_succ, List.set_cons_zero])
    | (go_at_call 9; refine (HC.out _).mono ?_; rintro e w' ⟨rfl, hb⟩; replace hR := hR.grow hb; clear hb)
    | ((with_reducible apply wpList_built); exact rfl; exact rfl; exact bRecZ; (simp only [List.set_cons_succ, List.set_cons_zero]; exact rfl))
    | ((with_reducible apply wpList_put hR tRec); exact rfl; exact rfl; exact rfl; (focus (repeat (first | apply List.Mem.head | apply List.Mem.tail | apply List.mem_append_right))); exact put_rec _ _ _ _; exact rfl; simp; (simp [Value.oneCell']); (focus (repeat (first | apply Upd.head | apply Upd.tail | apply Upd.skipC))); clear hR; intro w hR)
    | ((with_reducible apply q_ls hR); exact rfl; ((with_reducible first | apply t_addr (fRec _ (by decide)) | apply t_addr (fSeg _ (by decide)) | apply t_one tByteR | apply t_one tSlR | apply t_one tIntR | apply t_one tWordS | apply t_part tSeg) <;> (first | (apply EvC.gv; exact rfl; (with_reducible first | exact Imp.refl _ | (apply Imp.left; exact Imp.refl _) | (apply Imp.right; exact Imp.refl _) | (apply Imp.left; apply Imp.left; exact Imp.refl _))) | (apply EvC.now; exact rfl) | exact rfl | (with_reducible exact EvAll.nil) | (focus (repeat (first | apply EvAll.cons | exact EvAll.nil | (apply EvC.gv; exact rfl; (with_reducible first | exact Imp.refl _ | (apply Imp.left; exact Imp.refl _) | (apply Imp.right; exact Imp.refl _) | (apply Imp.left; apply Imp.left; exact Imp.refl _))) | (apply EvC.now; exact rfl))); done) | exact ext_seg _ | (focus (repeat (first | apply List.Mem.head | apply List.Mem.tail | apply List.mem_append_right))))); (simp only [List.set_cons_succ, List.set_cons_zero]; exact rfl); clear hR; intro w hR))
    (try simp only [Exit.inBlock, Exit.then])
    exact post_row_tmp hR rfl (by rfl) (by rfl) (by (focus (repeat (first | apply List.Mem.head | apply List.Mem.tail | apply List.mem_append_right)))) Try.underlying28 rfl iRec (by rfl) (by rfl) ⟨[], _, rfl, hR.drop (List.nil_sublist _), by rw [HM.out]; exact (Sl.nil 5 1).srcR .nil⟩
  · have hM := (mayS_iff s).1 hm
    have HM := Lib.hid (show segP s = segB s by unfold segP; rw [hm]; rfl)
    have HC : Hid (∀ w, Calls Try.prog 9 #[.agg (encSeg s)] w fun e w' => e = .returned (.bool true) ∧ Below w.heap.size w w') := Lib.hid fun w => by have := segMay_any s w; rwa [hm] at this
    have hf := firstS_bd hM
    have hl := hM.l
    have HFI := Lib.hid (fun w => segFirst_any s hM w)
    obtain ⟨f, hfe⟩ : ∃ f, firstS s = f := ⟨_, rfl⟩
    rw [hfe] at hf HFI
    have HTF : Hid (∀ w, Calls Try.prog 18 #[.int .u16 s.f] w fun e w' => RowsB w w' e (bytesN s.f.toNat 2)) := Lib.hid fun w => by
      obtain ⟨fn, hfn⟩ : ∃ fn : Nat, s.f = fn := Int.eq_ofNat_of_zero_le ho.2.2.1.1
      rw [hfn, Int.toNat_natCast]
      exact twoX_any fn w (by have := ho.2.2.1.2; omega)
    obtain ⟨ln, hln⟩ : ∃ ln : Nat, s.l % 65536 = ln := Int.eq_ofNat_of_zero_le (by omega)
    have HLW := Lib.hid (show IntKind.u16.wrap s.l = (ln : Int) by rw [IntKind.wrap_u16]; exact hln)
    have hlb : ln ≤ 65535 := by omega
    have hl2 := bytesN_len ln 2
    have hf2 := bytesN_len s.f.toNat 2
    have HV := Lib.hid (show segB s = (f :: placeB s) ++ bytesN ln 2 ++ ((idxS s).take 3).flatMap idxN by rw [idx_all]; unfold segB; rw [hfe, hln, Int.toNat_natCast]; simp)
    have HPL := Lib.hid (show placeB s = if s.a = 0 then bytesN s.f.toNat 2 ++ [s.o] else [] from rfl)
    have hpl3 : (placeB s).length ≤ 3 := by rw [placeB_len]; split <;> omega
    obtain ⟨p, hp⟩ : ∃ p, placeB s = p := ⟨_, rfl⟩
    rw [hp] at HV HPL hpl3
    have hbo : bytesOk [s.o] := .cons ho.2.2.2.1 .nil
    have hok := segB_ok hM ho
    clear hfe hln hp hm hl
    go_enter Try.func7, Try.ntmps7
    go_upto_if 16 with (first
    | ((with_reducible apply wpList_box hR); exact rfl; exact rfl; clear hR; intro g0 w hR; simp only [List.set_cons_succ, List.set_cons_zero])
    | ((with_reducible apply wpList_make hR zRec); exact rfl; clear hR; intro g w hR; simp only [List.set_cons_succ, List.set_cons_zero])
    | (go_at_call 9; refine (HC.out _).mono ?_; rintro e w' ⟨rfl, hb⟩; replace hR := hR.grow hb; clear hb)
    | (go_at_call 17; refine (HFI.out _).mono ?_; rintro e w' ⟨rfl, hb⟩; replace hR := hR.grow hb; clear hb)
    | ((with_reducible apply wpList_buildS hR); exact rfl; exact rfl; (exact bB1 _); clear hR; intro gb w hR; simp only [List.set_cons_succ, List.set_cons_zero])
    | ((with_reducible apply q_ls hR); exact rfl; ((with_reducible first | apply t_addr (fRec _ (by decide)) | apply t_addr (fSeg _ (by decide)) | apply t_one tByteR | apply t_one tSlR | apply t_one tIntR | apply t_one tWordS | apply t_part tSeg) <;> (first | (apply EvC.gv; exact rfl; (with_reducible first | exact Imp.refl _ | (apply Imp.left; exact Imp.refl _) | (apply Imp.right; exact Imp.refl _) | (apply Imp.left; apply Imp.left; exact Imp.refl _))) | (apply EvC.now; exact rfl) | exact rfl | (with_reducible exact EvAll.nil) | (focus (repeat (first | apply EvAll.cons | exact EvAll.nil | (apply EvC.gv; exact rfl; (with_reducible first | exact Imp.refl _ | (apply Imp.left; exact Imp.refl _) | (apply Imp.right; exact Imp.refl _) | (apply Imp.left; apply Imp.left; exact Imp.refl _))) | (apply EvC.now; exact rfl))); done) | exact ext_seg _ | (focus (repeat (first | apply List.Mem.head | apply List.Mem.tail | apply List.mem_append_right))))); (simp only [List.set_cons_succ, List.set_cons_zero]; exact rfl); clear hR; intro w hR))
    go_cut [4] (fun b wr => ∃ s1 : List RowT, Sl 5 1 s1 b (f :: p).length (cellsB (f :: p)) ∧ Own w0 wr (s1 ++ [(g, #[.int .u8 0, .slice none 0 0], 28), (g0, encSeg s, 24)]))
    case first =>
      have hS : Sl 5 1 [(gb, #[Value.int .u8 f], 5)] (.slice (some ⟨gb, 0, none⟩) 1 1) 1 (cellsB [f]) := slI (ns := [f]) rfl (by simp)
      by_cases ha : s.a = 0
      · have HP := Lib.hid (show f :: p = [f] ++ bytesN s.f.toNat 2 ++ [s.o] by rw [HPL.out, if_pos ha]; rfl)
        refine wp_cond_at (nm := true) rfl (by simp [ha]) (fun _ => ?_) (fun h => absurd h (by decide))
        replace hR : Own w0 _ ([(gb, #[Value.int .u8 f], 5)] ++ [(g, #[.int .u8 0, .slice none 0 0], 28), (g0, encSeg s, 24)]) := hR
        generalize [(gb, #[Value.int .u8 f], 5)] = s0 at hR hS
        clear ha
        go_wp2_with (first
    | (go_at_call 18; refine (HTF.out _).mono ?_; rintro e w' ⟨s1, v1, rfl, hO, hS1⟩; replace hR := hR.join hO; clear hO)
    | ((with_reducible apply wpList_appG hR tBytesI); exact rfl; exact rfl; exact rfl; exact hS; (exact Les.skip _ Les.head); (exact hS1.rd hR (fun r hr => List.mem_append_left _ hr) (ones_b _)); (simp [maxLen]; omega); (simp; omega); clear hR hS; intro sx v w hR hS; replace hR := hR.drop (List.Sublist.append (List.Sublist.refl _) (List.sublist_append_right _ _)); simp only [List.set_cons_succ, List.set_cons_zero])
    | ((with_reducible apply wpList_buildS hR); exact rfl; exact rfl; (exact bB1 _); clear hR; intro gb w hR; simp only [List.set_cons_succ, List.set_cons_zero])
    | ((with_reducible apply wpList_appG hR tBytesI); exact rfl; exact rfl; exact rfl; exact hS; (exact Les.tail Les.head); (exact (src_row (ns := [_]) hR (.head _) rfl hbo (by simp)).rd); (simp [maxLen]; omega); (simp; omega); clear hR hS; intro sx v w hR hS; replace hR := hR.drop (List.Sublist.append (List.Sublist.refl _) (List.sublist_cons_self _ _)); simp only [List.set_cons_succ, List.set_cons_zero])
    | ((with_reducible apply q_ls hR); exact rfl; ((with_reducible first | apply t_addr (fRec _ (by decide)) | apply t_addr (fSeg _ (by decide)) | apply t_one tByteR | apply t_one tSlR | apply t_one tIntR | apply t_one tWordS | apply t_part tSeg) <;> (first | (apply EvC.gv; exact rfl; (with_reducible first | exact Imp.refl _ | (apply Imp.left; exact Imp.refl _) | (apply Imp.right; exact Imp.refl _) | (apply Imp.left; apply Imp.left; exact Imp.refl _))) | (apply EvC.now; exact rfl) | exact rfl | (with_reducible exact EvAll.nil) | (focus (repeat (first | apply EvAll.cons | exact EvAll.nil | (apply EvC.gv; exact rfl; (with_reducible first | exact Imp.refl _ | (apply Imp.left; exact Imp.refl _) | (apply Imp.right; exact Imp.refl _) | (apply Imp.left; apply Imp.left; exact Imp.refl _))) | (apply EvC.now; exact rfl))); done) | exact ext_seg _ | (focus (repeat (first | apply List.Mem.head | apply List.Mem.tail | apply List.mem_append_right))))); (simp only [List.set_cons_succ, List.set_cons_zero]; exact rfl); clear hR; intro w hR))
        go_meet
        refine ⟨sx, ?_, hR⟩
        rw [HP.out, List.length_append, List.length_append, cellsB_append, cellsB_append]
        exact hS
      · have HP := Lib.hid (show f :: p = [f] by rw [HPL.out, if_neg ha])
        refine wp_cond_at (nm := false) rfl (by simp [ha]) (fun h => absurd h (by decide)) (fun _ => ?_)
        go_wp2_with fail
        go_meet
        rw [HP.out]
        exact ⟨[(gb, #[Value.int .u8 f], 5)], hS, hR⟩
    case rest =>
      clear hR HPL
      obtain ⟨s0, hS, hR⟩ := hcut
      generalize hq : f :: p = q at *
      have hq4 : q.length ≤ 4 := by rw [← hq]; simp only [List.length_cons]; omega
      clear hq
      go_wp2_with (first
    | ((with_reducible apply q_ls hR); exact rfl; (with_reducible apply t_conv Try.underlying3 Try.underlying22); (apply EvC.now; exact rfl); exact HLW.out; (simp only [List.set_cons_succ, List.set_cons_zero]; exact rfl); clear hR; intro w hR)
    | (go_at_call 18; refine (twoX_any ln _ hlb).mono ?_; rintro e w' ⟨s1, v1, rfl, hO, hS1⟩; replace hR := hR.join hO; clear hO)
    | ((with_reducible apply wpList_appG hR tBytesI); exact rfl; exact rfl; exact rfl; exact hS; (exact Les.skip _ Les.head); (exact hS1.rd hR (fun r hr => List.mem_append_left _ hr) (ones_b _)); (simp [maxLen]; omega); (simp; omega); clear hR hS; intro sx v w hR hS; replace hR := hR.drop (List.Sublist.append (List.Sublist.refl _) (List.sublist_append_right _ _)); simp only [List.set_cons_succ, List.set_cons_zero])
    | (go_at_call 19; refine (segIndices_any s _).mono ?_; rintro e w' ⟨rfl, hb⟩; replace hR := hR.grow hb; clear hb)
    | ((with_reducible apply q_ls hR); exact rfl; ((with_reducible first | apply t_addr (fRec _ (by decide)) | apply t_addr (fSeg _ (by decide)) | apply t_one tByteR | apply t_one tSlR | apply t_one tIntR | apply t_one tWordS | apply t_part tSeg) <;> (first | (apply EvC.gv; exact rfl; (with_reducible first | exact Imp.refl _ | (apply Imp.left; exact Imp.refl _) | (apply Imp.right; exact Imp.refl _) | (apply Imp.left; apply Imp.left; exact Imp.refl _))) | (apply EvC.now; exact rfl) | exact rfl | (with_reducible exact EvAll.nil) | (focus (repeat (first | apply EvAll.cons | exact EvAll.nil | (apply EvC.gv; exact rfl; (with_reducible first | exact Imp.refl _ | (apply Imp.left; exact Imp.refl _) | (apply Imp.right; exact Imp.refl _) | (apply Imp.left; apply Imp.left; exact Imp.refl _))) | (apply EvC.now; exact rfl))); done) | exact ext_seg _ | (focus (repeat (first | apply List.Mem.head | apply List.Mem.tail | apply List.mem_append_right))))); (simp only [List.set_cons_succ, List.set_cons_zero]; exact rfl); clear hR; intro w hR))
      go_loopw [4, 35] (fun b i wr => ∃ (k : Nat) (sx : List RowT), i = .int .i64 k ∧ k ≤ 3 ∧ Sl 5 1 sx b (q ++ bytesN ln 2 ++ ((idxS s).take k).flatMap idxN).length (cellsB (q ++ bytesN ln 2 ++ ((idxS s).take k).flatMap idxN)) ∧ Own w0 wr (sx ++ [(g, #[.int .u8 0, .slice none 0 0], 28), (g0, encSeg s, 24)])) (fun _ i _ => 3 - (intOf i).toNat)
      case atStart =>
        refine ⟨0, sx, rfl, by decide, ?_, hR⟩
        rw [List.take_zero, List.flatMap_nil, List.append_nil, List.length_append, cellsB_append]
        exact hS
      case round =>
        clear hR hS
        obtain ⟨k, s0, rfl, hk, hS, hR⟩ := hrel
        by_cases hk3 : k < 3
        · obtain ⟨x, hx, hv⟩ := idxS_at s hk3
          have hb := idx_bd hM hx
          have HX := Lib.hid (idx_more hx)
          have HI := Lib.hid hv
          have hmost := idx_most s k
          have hil := (idxN_len x).2
          have HPU := Lib.hid (fun w => putX_any x w (by omega) (by omega))
          obtain ⟨y, hy⟩ : ∃ y, ((idxS s).take k).flatMap idxN = y := ⟨_, rfl⟩
          rw [hy] at hS hmost HX
          obtain ⟨z, hz⟩ : ∃ z, q ++ bytesN ln 2 ++ y = z := ⟨_, rfl⟩
          have hzl : z.length ≤ 12 := by rw [← hz]; simp only [List.length_append]; omega
          have HZ := Lib.hid (show q ++ bytesN ln 2 ++ ((idxS s).take (k + 1)).flatMap idxN = z ++ idxN x by rw [HX.out, ← hz]; simp)
          rw [hz] at hS
          clear hx hv hz hy HX hmost
          go_wp2_with (first
    | ((with_reducible apply wpList_index Try.underlying51 tIntS); exact rfl; exact rfl; exact rfl; (exact decide_eq_true (by omega)); exact HI.out; (simp only [List.set_cons_succ, List.set_cons_zero]; exact rfl))
    | (go_at_call 20; refine (HPU.out _).mono ?_; rintro e w' ⟨s1, v1, rfl, hO, hS1⟩; replace hR := hR.join hO; clear hO)
    | ((with_reducible apply wpList_appG hR tBytesI); exact rfl; exact rfl; exact rfl; exact hS; (exact Les.skip _ Les.head); (exact hS1.rd hR (fun r hr => List.mem_append_left _ hr) (ones_b _)); (simp [maxLen]; omega); (simp; omega); clear hR hS; intro sx v w hR hS; replace hR := hR.drop (List.Sublist.append (List.Sublist.refl _) (List.sublist_append_right _ _)); simp only [List.set_cons_succ, List.set_cons_zero])
    | ((with_reducible apply q_ls hR); exact rfl; ((with_reducible first | apply t_addr (fRec _ (by decide)) | apply t_addr (fSeg _ (by decide)) | apply t_one tByteR | apply t_one tSlR | apply t_one tIntR | apply t_one tWordS | apply t_part tSeg) <;> (first | (apply EvC.gv; exact rfl; (with_reducible first | exact Imp.refl _ | (apply Imp.left; exact Imp.refl _) | (apply Imp.right; exact Imp.refl _) | (apply Imp.left; apply Imp.left; exact Imp.refl _))) | (apply EvC.now; exact rfl) | exact rfl | (with_reducible exact EvAll.nil) | (focus (repeat (first | apply EvAll.cons | exact EvAll.nil | (apply EvC.gv; exact rfl; (with_reducible first | exact Imp.refl _ | (apply Imp.left; exact Imp.refl _) | (apply Imp.right; exact Imp.refl _) | (apply Imp.left; apply Imp.left; exact Imp.refl _))) | (apply EvC.now; exact rfl))); done) | exact ext_seg _ | (focus (repeat (first | apply List.Mem.head | apply List.Mem.tail | apply List.mem_append_right))))); (simp only [List.set_cons_succ, List.set_cons_zero]; exact rfl); clear hR; intro w hR))
          go_round
          case rel =>
            refine ⟨k + 1, sx, rfl, by omega, ?_, hR⟩
            rw [HZ.out, List.length_append, cellsB_append]
            exact hS
          case measure => simp [intOf]; omega
        · obtain rfl : k = 3 := by omega
          rw [← HV.out] at hS
          go_wp2_with (first
    | ((with_reducible apply wpList_built); exact rfl; exact rfl; exact bRecC _ hS; (simp only [List.set_cons_succ, List.set_cons_zero]; exact rfl))
    | ((with_reducible apply wpList_put hR tRec); exact rfl; exact rfl; exact rfl; (focus (repeat (first | apply List.Mem.head | apply List.Mem.tail | apply List.mem_append_right))); exact put_rec _ _ _ _; exact rfl; simp; exact one_recC _ hS; (focus (repeat (first | apply Upd.head | apply Upd.tail | apply Upd.skipC))); clear hR; intro w hR)
    | ((with_reducible apply q_ls hR); exact rfl; ((with_reducible first | apply t_addr (fRec _ (by decide)) | apply t_addr (fSeg _ (by decide)) | apply t_one tByteR | apply t_one tSlR | apply t_one tIntR | apply t_one tWordS | apply t_part tSeg) <;> (first | (apply EvC.gv; exact rfl; (with_reducible first | exact Imp.refl _ | (apply Imp.left; exact Imp.refl _) | (apply Imp.right; exact Imp.refl _) | (apply Imp.left; apply Imp.left; exact Imp.refl _))) | (apply EvC.now; exact rfl) | exact rfl | (with_reducible exact EvAll.nil) | (focus (repeat (first | apply EvAll.cons | exact EvAll.nil | (apply EvC.gv; exact rfl; (with_reducible first | exact Imp.refl _ | (apply Imp.left; exact Imp.refl _) | (apply Imp.right; exact Imp.refl _) | (apply Imp.left; apply Imp.left; exact Imp.refl _))) | (apply EvC.now; exact rfl))); done) | exact ext_seg _ | (focus (repeat (first | apply List.Mem.head | apply List.Mem.tail | apply List.mem_append_right))))); (simp only [List.set_cons_succ, List.set_cons_zero]; exact rfl); clear hR; intro w hR))
          (try simp only [Exit.inBlock, Exit.then])
          exact post_row_tmp hR rfl (by rfl) (by rfl) (by (focus (repeat (first | apply List.Mem.head | apply List.Mem.tail | apply List.mem_append_right)))) Try.underlying28 rfl iRec (by rfl) (by rfl) ⟨s0, _, rfl, hR.drop (List.sublist_append_left _ _), by rw [HM.out]; exact hS.srcR hok⟩
end Go.Proofs.Ytmdiemebfmnmkaa
