









/- The contracts of package fixup: a fixup's bytes, a record of fixups. No statement of the seat is proved here. -/
import Derived.Test.YtimciiaajlfkoaaFixA
namespace Go.Proofs.Ytimciiaajlfkoaa
open Go.ChangeShapes Go.WideShapes Go.ChangeAt Go.RowKit
set_option linter.unusedVariables false
set_option linter.unusedSimpArgs false

theorem or_one {l q : Int} (hl : 0 ≤ l ∧ l ≤ 4) (hq : 0 ≤ q ∧ q ≤ 3) : bits .or .i64 128 (4 * l) = 128 + 4 * l ∧ bits .or .i64 (128 + 4 * l) q = 128 + 4 * l + q ∧ bits .or .u8 (128 + 4 * l + q) 64 = 128 + 4 * l + q + 64 := by
  rcases (by omega : l = 0 ∨ l = 1 ∨ l = 2 ∨ l = 3 ∨ l = 4) with rfl | rfl | rfl | rfl | rfl <;> rcases (by omega : q = 0 ∨ q = 1 ∨ q = 2 ∨ q = 3) with rfl | rfl | rfl | rfl <;> decide
theorem or_thr {r t : Int} (hr : 0 ≤ r ∧ r ≤ 5) (ht : 0 ≤ t ∧ t ≤ 2) : bits .or .i64 (16 * r) t = 16 * r + t ∧ bits .or .u8 (16 * r + t) 4 = 16 * r + t + 4 := by
  rcases (by omega : r = 0 ∨ r = 1 ∨ r = 2 ∨ r = 3 ∨ r = 4 ∨ r = 5) with rfl | rfl | rfl | rfl | rfl | rfl <;> rcases (by omega : t = 0 ∨ t = 1 ∨ t = 2) with rfl | rfl | rfl <;> decide
theorem ones_fix (ns : List Int) : (cellsB ns).all (·.oneCell') = true := by simp [cellsB, List.all_map, Value.oneCell']
theorem Sl.castF {e : TypeId} {k n m : Nat} {s : List RowT} {v : Value} {xs ys : List Value} (h : Sl e k s v n xs) (hn : n = m) (hx : xs = ys) : Sl e k s v m ys := hn ▸ hx ▸ h
set_option maxHeartbeats 4000000 in
set_option maxRecDepth 100000 in
theorem fixPut_any (f : FixZ) (n : Int) (w0 : World) (hm : MayF f n) (hd : f.d ≤ 65535) : Calls Try.prog 11 #[.agg (encF f)] w0 fun e w' => RetB w0 w' (fun v => v) e (putF f) := by
  have hR := Own.start w0
  have hok := putF_ok hm
  have hin1 := idxN_len f.fn
  have hin2 := idxN_len f.n
  have hin3 := bytesN_len f.d 2
  obtain ⟨h1, h2, _, h4, h5, h6⟩ := hm
  obtain ⟨o1, o2, o3⟩ := or_one h1 (q := f.a / 256) (by omega)
  obtain ⟨o4, o5⟩ := or_thr (r := f.fr) (t := f.tg) (by omega) h4
  have hfn : -9223372036854775808 ≤ f.fn ∧ f.fn ≤ 9223372036854775807 := by omega
  have H2 := Lib.hid (show IntKind.i64.wrap (f.loc * 2 ^ 2) = 4 * f.loc by rw [IntWalk.i64_in _ (by omega)]; omega)
  have H4 := Lib.hid (show IntKind.i64.wrap (f.fr * 2 ^ 4) = 16 * f.fr by rw [IntWalk.i64_in _ (by omega)]; omega)
  have H8 := Lib.hid (show f.a / 2 ^ 8 = f.a / 256 from rfl)
  have HC2 := Lib.hid (show IntKind.u8.wrap f.a = f.a % 256 from IntKind.wrap_u8 _)
  have HP := Lib.hid (show putF f = [oneB f, f.a % 256, thrB f] ++ (frB f ++ (idxN f.n ++ dB f)) from rfl)
  have HX1 := Lib.hid (show oneB f = 128 + 4 * f.loc + f.a / 256 + (if f.sf then 0 else 64) from rfl)
  have HY1 := Lib.hid (show thrB f = 16 * f.fr + f.tg + (if f.d = 0 then 4 else 0) from rfl)
  obtain ⟨x1, hx1⟩ : ∃ x, 128 + 4 * f.loc = x := ⟨_, rfl⟩
  obtain ⟨q8, hq8⟩ : ∃ x, f.a / 256 = x := ⟨_, rfl⟩
  rw [hx1, hq8] at o2 o3 HX1
  rw [hx1] at o1
  rw [hq8] at H8
  obtain ⟨x2, hx2⟩ : ∃ x, x1 + q8 = x := ⟨_, rfl⟩
  rw [hx2] at o2 o3 HX1
  obtain ⟨y1, hy1⟩ : ∃ x, 16 * f.fr = x := ⟨_, rfl⟩
  rw [hy1] at o4 o5 H4 HY1
  obtain ⟨y2, hy2⟩ : ∃ x, y1 + f.tg = x := ⟨_, rfl⟩
  rw [hy2] at o4 o5 HY1
  obtain ⟨l4, hl4⟩ : ∃ x, 4 * f.loc = x := ⟨_, rfl⟩
  rw [hl4] at o1 H2
  obtain ⟨x3, hx3⟩ : ∃ x, x2 + 64 = x := ⟨_, rfl⟩
  rw [hx3] at o3
  obtain ⟨y3, hy3⟩ : ∃ x, y2 + 4 = x := ⟨_, rfl⟩
  rw [hy3] at o5
  have HO1 := Lib.hid o1
  have HO2 := Lib.hid o2
  have HO3 := Lib.hid o3
  have HO4 := Lib.hid o4
  have HO5 := Lib.hid o5
  have HC1 := Lib.hid (show IntKind.u8.wrap x2 = x2 from IntWalk.u8_in _ (by omega))
  have HC3 := Lib.hid (show IntKind.u8.wrap y2 = y2 from IntWalk.u8_in _ (by omega))
  have HX3 := Lib.hid hx3
  have HY3 := Lib.hid hy3
  have HT := Lib.hid (fun w => twoX_any f.d w hd)
  clear o1 o2 o3 o4 o5 hx1 hq8 hx2 hy1 hy2 hl4 hx3 hy3
  obtain ⟨X, hX⟩ : ∃ X, X = if f.sf then x2 else x3 := ⟨_, rfl⟩
  obtain ⟨Y, hY⟩ : ∃ Y, Y = if f.d = 0 then y3 else y2 := ⟨_, rfl⟩
  have HP := Lib.hid (show putF f = [X, f.a % 256, Y] ++ (frB f ++ (idxN f.n ++ dB f)) by
    rw [HP.out, HX1.out, HY1.out, hX, hY, ← HX3.out, ← HY3.out]
    congr 2
    · split <;> omega
    · congr 2
      split <;> omega)
  clear HX1 HY1 HX3 HY3
  cases hsf : f.sf
  · have HS := Lib.hid (show (encF f).toList[2]? = some (.bool false) by rw [← hsf]; rfl)
    rw [hsf] at hX
    obtain rfl : x3 = X := hX.symm
    clear hsf hX
    by_cases hd0 : f.d = 0
    · have HD1 := Lib.hid (show cmpB .eql (f.d : Int) 0 = some true by simp [cmpB, hd0])
      have HD2 := Lib.hid (show cmpB .neq (f.d : Int) 0 = some false by simp [cmpB, hd0])
      obtain rfl : y3 = Y := (hY.trans (if_pos hd0)).symm
      have HDB := Lib.hid (show dB f = [] from if_pos hd0)
      clear hd0 hY
      by_cases hfr : f.fr < 3
      · have HF : Hid (∀ w, Calls Try.prog 22 #[.int .i64 f.fr] w fun e w' => e = .returned (.bool true) ∧ Below w.heap.size w w') := Lib.hid fun w => by have := fixHas_any f.fr w; rwa [show hasB f.fr = true by unfold hasB; simp; omega] at this
        have HPP := Lib.hid (show putF f = [x3, f.a % 256, y3] ++ (idxN f.fn ++ (idxN f.n ++ [])) by rw [HP.out, HDB.out, show frB f = _ from if_pos hfr])
        go_enter Try.func11, Try.ntmps11
        go_wp2_with (first
            | ((with_reducible apply wpList_box hR); exact rfl; exact rfl; clear hR; intro g w hR; simp only [List.set_cons_succ, List.set_cons_zero])
            | (go_at_call 24; refine (fixWithin_any _ _ _ (by omega)).mono ?_; rintro e w' ⟨rfl, hb⟩; replace hR := hR.grow hb; clear hb)
            | ((with_reducible apply q_ls hR); exact rfl; (with_reducible apply t_shlE (k := 2)); (apply EvC.now; exact rfl); (apply EvC.now; exact rfl); exact rfl; (decide); exact H2.out; (simp only [List.set_cons_succ, List.set_cons_zero]; exact rfl); clear hR; intro w hR)
            | ((with_reducible apply q_ls hR); exact rfl; (with_reducible apply t_shlE (k := 4)); (apply EvC.now; exact rfl); (apply EvC.now; exact rfl); exact rfl; (decide); exact H4.out; (simp only [List.set_cons_succ, List.set_cons_zero]; exact rfl); clear hR; intro w hR)
            | ((with_reducible apply q_ls hR); exact rfl; (with_reducible apply t_shrE (k := 8)); (apply EvC.now; exact rfl); (apply EvC.now; exact rfl); exact rfl; (decide); exact H8.out; (simp only [List.set_cons_succ, List.set_cons_zero]; exact rfl); clear hR; intro w hR)
            | ((with_reducible apply q_ls hR); exact rfl; (with_reducible apply t_numE); (apply EvC.now; exact rfl); (apply EvC.now; exact rfl); exact rfl; (with_reducible (first | exact HO1.out | exact HO2.out | exact HO3.out | exact HO4.out | exact HO5.out)); (simp only [List.set_cons_succ, List.set_cons_zero]; exact rfl); clear hR; intro w hR)
            | ((with_reducible apply q_ls hR); exact rfl; (with_reducible apply t_conv Try.underlying3 Try.underlying5); (apply EvC.now; exact rfl); (with_reducible first | exact HC1.out | exact HC2.out | exact HC3.out); (simp only [List.set_cons_succ, List.set_cons_zero]; exact rfl); clear hR; intro w hR)
            | ((with_reducible apply q_ls hR); exact rfl; (with_reducible apply t_one tBoolF); (apply EvC.now; exact rfl); (focus (repeat (first | apply List.Mem.head | apply List.Mem.tail | apply List.mem_append_right))); exact HS.out; (simp only [List.set_cons_succ, List.set_cons_zero]; exact rfl); clear hR; intro w hR)
            | ((with_reducible apply q_ls hR); exact rfl; (with_reducible apply t_cmp); (apply EvC.now; exact rfl); (apply EvC.now; exact rfl); (with_reducible first | exact HD1.out | exact HD2.out); (simp only [List.set_cons_succ, List.set_cons_zero]; exact rfl); clear hR; intro w hR)
            | ((with_reducible apply wpList_buildS hR); exact rfl; exact rfl; (exact bB3 _ _ _); clear hR; intro gb w hR; (have hS := slI (g := gb) (cur := #[.int .u8 x3, .int .u8 (f.a % 256), .int .u8 y3]) (ns := [x3, f.a % 256, y3]) rfl (by simp)); simp only [List.set_cons_succ, List.set_cons_zero])
            | (go_at_call 22; refine (HF.out _).mono ?_; rintro e w' ⟨rfl, hb⟩; replace hR := hR.grow hb; clear hb)
            | (go_at_call 26; refine (HT.out _).mono ?_; rintro e w' ⟨s1, v1, rfl, hO, hS1⟩; replace hR := hR.join hO; clear hO)
            | (go_at_call 25; refine (putX_any _ _ (by omega) (by omega)).mono ?_; rintro e w' ⟨s1, v1, rfl, hO, hS1⟩; replace hR := hR.join hO; clear hO)
            | ((with_reducible apply wpList_appG hR tBytesI); exact rfl; exact rfl; exact rfl; exact hS; (exact Les.skip _ Les.head); (exact hS1.rd hR (fun r hr => List.mem_append_left _ hr) (ones_fix _)); (simp [maxLen]; omega); (simp; omega); clear hR hS; intro sx v w hR hS; replace hR := hR.drop (List.Sublist.append (List.Sublist.refl _) (List.sublist_append_right _ _)); simp only [List.set_cons_succ, List.set_cons_zero])
            | ((with_reducible apply q_ls hR); exact rfl; ((with_reducible first | apply t_addr (fRec _ (by decide)) | apply t_addr (fFix _ (by decide)) | apply t_one tByteR | apply t_one tSlR | apply t_one tIntR | apply t_one tWordF | apply t_one tBoolF | apply t_part tFix) <;> (first | (apply EvC.gv; exact rfl; (with_reducible first | exact Imp.refl _ | (apply Imp.left; exact Imp.refl _) | (apply Imp.right; exact Imp.refl _) | (apply Imp.left; apply Imp.left; exact Imp.refl _))) | (apply EvC.now; exact rfl) | exact rfl | (with_reducible exact EvAll.nil) | (focus (repeat (first | apply EvAll.cons | exact EvAll.nil | (apply EvC.gv; exact rfl; (with_reducible first | exact Imp.refl _ | (apply Imp.left; exact Imp.refl _) | (apply Imp.right; exact Imp.refl _) | (apply Imp.left; apply Imp.left; exact Imp.refl _))) | (apply EvC.now; exact rfl))); done) | exact ext_fix _ | (focus (repeat (first | apply List.Mem.head | apply List.Mem.tail | apply List.mem_append_right))))); (simp only [List.set_cons_succ, List.set_cons_zero]; exact rfl); clear hR; intro w hR))
        go_ret
        rw [HPP.out] at hok ⊢
        exact ⟨_, _, rfl, hR.drop (List.sublist_append_left _ _), (hS.castF rfl (by simp only [cellsB, List.map_append, List.append_assoc, List.map_nil, List.append_nil, List.nil_append])).srcR hok⟩
      · have HF : Hid (∀ w, Calls Try.prog 22 #[.int .i64 f.fr] w fun e w' => e = .returned (.bool false) ∧ Below w.heap.size w w') := Lib.hid fun w => by have := fixHas_any f.fr w; rwa [show hasB f.fr = false by unfold hasB; simp; omega] at this
        have HPP := Lib.hid (show putF f = [x3, f.a % 256, y3] ++ ([] ++ (idxN f.n ++ [])) by rw [HP.out, HDB.out, show frB f = _ from if_neg hfr])
        go_enter Try.func11, Try.ntmps11
        go_wp2_with (first
            | ((with_reducible apply wpList_box hR); exact rfl; exact rfl; clear hR; intro g w hR; simp only [List.set_cons_succ, List.set_cons_zero])
            | (go_at_call 24; refine (fixWithin_any _ _ _ (by omega)).mono ?_; rintro e w' ⟨rfl, hb⟩; replace hR := hR.grow hb; clear hb)
            | ((with_reducible apply q_ls hR); exact rfl; (with_reducible apply t_shlE (k := 2)); (apply EvC.now; exact rfl); (apply EvC.now; exact rfl); exact rfl; (decide); exact H2.out; (simp only [List.set_cons_succ, List.set_cons_zero]; exact rfl); clear hR; intro w hR)
            | ((with_reducible apply q_ls hR); exact rfl; (with_reducible apply t_shlE (k := 4)); (apply EvC.now; exact rfl); (apply EvC.now; exact rfl); exact rfl; (decide); exact H4.out; (simp only [List.set_cons_succ, List.set_cons_zero]; exact rfl); clear hR; intro w hR)
            | ((with_reducible apply q_ls hR); exact rfl; (with_reducible apply t_shrE (k := 8)); (apply EvC.now; exact rfl); (apply EvC.now; exact rfl); exact rfl; (decide); exact H8.out; (simp only [List.set_cons_succ, List.set_cons_zero]; exact rfl); clear hR; intro w hR)
            | ((with_reducible apply q_ls hR); exact rfl; (with_reducible apply t_numE); (apply EvC.now; exact rfl); (apply EvC.now; exact rfl); exact rfl; (with_reducible (first | exact HO1.out | exact HO2.out | exact HO3.out | exact HO4.out | exact HO5.out)); (simp only [List.set_cons_succ, List.set_cons_zero]; exact rfl); clear hR; intro w hR)
            | ((with_reducible apply q_ls hR); exact rfl; (with_reducible apply t_conv Try.underlying3 Try.underlying5); (apply EvC.now; exact rfl); (with_reducible first | exact HC1.out | exact HC2.out | exact HC3.out); (simp only [List.set_cons_succ, List.set_cons_zero]; exact rfl); clear hR; intro w hR)
            | ((with_reducible apply q_ls hR); exact rfl; (with_reducible apply t_one tBoolF); (apply EvC.now; exact rfl); (focus (repeat (first | apply List.Mem.head | apply List.Mem.tail | apply List.mem_append_right))); exact HS.out; (simp only [List.set_cons_succ, List.set_cons_zero]; exact rfl); clear hR; intro w hR)
            | ((with_reducible apply q_ls hR); exact rfl; (with_reducible apply t_cmp); (apply EvC.now; exact rfl); (apply EvC.now; exact rfl); (with_reducible first | exact HD1.out | exact HD2.out); (simp only [List.set_cons_succ, List.set_cons_zero]; exact rfl); clear hR; intro w hR)
            | ((with_reducible apply wpList_buildS hR); exact rfl; exact rfl; (exact bB3 _ _ _); clear hR; intro gb w hR; (have hS := slI (g := gb) (cur := #[.int .u8 x3, .int .u8 (f.a % 256), .int .u8 y3]) (ns := [x3, f.a % 256, y3]) rfl (by simp)); simp only [List.set_cons_succ, List.set_cons_zero])
            | (go_at_call 22; refine (HF.out _).mono ?_; rintro e w' ⟨rfl, hb⟩; replace hR := hR.grow hb; clear hb)
            | (go_at_call 26; refine (HT.out _).mono ?_; rintro e w' ⟨s1, v1, rfl, hO, hS1⟩; replace hR := hR.join hO; clear hO)
            | (go_at_call 25; refine (putX_any _ _ (by omega) (by omega)).mono ?_; rintro e w' ⟨s1, v1, rfl, hO, hS1⟩; replace hR := hR.join hO; clear hO)
            | ((with_reducible apply wpList_appG hR tBytesI); exact rfl; exact rfl; exact rfl; exact hS; (exact Les.skip _ Les.head); (exact hS1.rd hR (fun r hr => List.mem_append_left _ hr) (ones_fix _)); (simp [maxLen]; omega); (simp; omega); clear hR hS; intro sx v w hR hS; replace hR := hR.drop (List.Sublist.append (List.Sublist.refl _) (List.sublist_append_right _ _)); simp only [List.set_cons_succ, List.set_cons_zero])
            | ((with_reducible apply q_ls hR); exact rfl; ((with_reducible first | apply t_addr (fRec _ (by decide)) | apply t_addr (fFix _ (by decide)) | apply t_one tByteR | apply t_one tSlR | apply t_one tIntR | apply t_one tWordF | apply t_one tBoolF | apply t_part tFix) <;> (first | (apply EvC.gv; exact rfl; (with_reducible first | exact Imp.refl _ | (apply Imp.left; exact Imp.refl _) | (apply Imp.right; exact Imp.refl _) | (apply Imp.left; apply Imp.left; exact Imp.refl _))) | (apply EvC.now; exact rfl) | exact rfl | (with_reducible exact EvAll.nil) | (focus (repeat (first | apply EvAll.cons | exact EvAll.nil | (apply EvC.gv; exact rfl; (with_reducible first | exact Imp.refl _ | (apply Imp.left; exact Imp.refl _) | (apply Imp.right; exact Imp.refl _) | (apply Imp.left; apply Imp.left; exact Imp.refl _))) | (apply EvC.now; exact rfl))); done) | exact ext_fix _ | (focus (repeat (first | apply List.Mem.head | apply List.Mem.tail | apply List.mem_append_right))))); (simp only [List.set_cons_succ, List.set_cons_zero]; exact rfl); clear hR; intro w hR))
        go_ret
        rw [HPP.out] at hok ⊢
        exact ⟨_, _, rfl, hR.drop (List.sublist_append_left _ _), (hS.castF rfl (by simp only [cellsB, List.map_append, List.append_assoc, List.map_nil, List.append_nil, List.nil_append])).srcR hok⟩
    · have HD1 := Lib.hid (show cmpB .eql (f.d : Int) 0 = some false by simp [cmpB, hd0])
      have HD2 := Lib.hid (show cmpB .neq (f.d : Int) 0 = some true by simp [cmpB, hd0])
      obtain rfl : y2 = Y := (hY.trans (if_neg hd0)).symm
      have HDB := Lib.hid (show dB f = bytesN f.d 2 from if_neg hd0)
      clear hd0 hY
      by_cases hfr : f.fr < 3
      · have HF : Hid (∀ w, Calls Try.prog 22 #[.int .i64 f.fr] w fun e w' => e = .returned (.bool true) ∧ Below w.heap.size w w') := Lib.hid fun w => by have := fixHas_any f.fr w; rwa [show hasB f.fr = true by unfold hasB; simp; omega] at this
        have HPP := Lib.hid (show putF f = [x3, f.a % 256, y2] ++ (idxN f.fn ++ (idxN f.n ++ bytesN f.d 2)) by rw [HP.out, HDB.out, show frB f = _ from if_pos hfr])
        go_enter Try.func11, Try.ntmps11
        go_wp2_with (first
            | ((with_reducible apply wpList_box hR); exact rfl; exact rfl; clear hR; intro g w hR; simp only [List.set_cons_succ, List.set_cons_zero])
            | (go_at_call 24; refine (fixWithin_any _ _ _ (by omega)).mono ?_; rintro e w' ⟨rfl, hb⟩; replace hR := hR.grow hb; clear hb)
            | ((with_reducible apply q_ls hR); exact rfl; (with_reducible apply t_shlE (k := 2)); (apply EvC.now; exact rfl); (apply EvC.now; exact rfl); exact rfl; (decide); exact H2.out; (simp only [List.set_cons_succ, List.set_cons_zero]; exact rfl); clear hR; intro w hR)
            | ((with_reducible apply q_ls hR); exact rfl; (with_reducible apply t_shlE (k := 4)); (apply EvC.now; exact rfl); (apply EvC.now; exact rfl); exact rfl; (decide); exact H4.out; (simp only [List.set_cons_succ, List.set_cons_zero]; exact rfl); clear hR; intro w hR)
            | ((with_reducible apply q_ls hR); exact rfl; (with_reducible apply t_shrE (k := 8)); (apply EvC.now; exact rfl); (apply EvC.now; exact rfl); exact rfl; (decide); exact H8.out; (simp only [List.set_cons_succ, List.set_cons_zero]; exact rfl); clear hR; intro w hR)
            | ((with_reducible apply q_ls hR); exact rfl; (with_reducible apply t_numE); (apply EvC.now; exact rfl); (apply EvC.now; exact rfl); exact rfl; (with_reducible (first | exact HO1.out | exact HO2.out | exact HO3.out | exact HO4.out | exact HO5.out)); (simp only [List.set_cons_succ, List.set_cons_zero]; exact rfl); clear hR; intro w hR)
            | ((with_reducible apply q_ls hR); exact rfl; (with_reducible apply t_conv Try.underlying3 Try.underlying5); (apply EvC.now; exact rfl); (with_reducible first | exact HC1.out | exact HC2.out | exact HC3.out); (simp only [List.set_cons_succ, List.set_cons_zero]; exact rfl); clear hR; intro w hR)
            | ((with_reducible apply q_ls hR); exact rfl; (with_reducible apply t_one tBoolF); (apply EvC.now; exact rfl); (focus (repeat (first | apply List.Mem.head | apply List.Mem.tail | apply List.mem_append_right))); exact HS.out; (simp only [List.set_cons_succ, List.set_cons_zero]; exact rfl); clear hR; intro w hR)
            | ((with_reducible apply q_ls hR); exact rfl; (with_reducible apply t_cmp); (apply EvC.now; exact rfl); (apply EvC.now; exact rfl); (with_reducible first | exact HD1.out | exact HD2.out); (simp only [List.set_cons_succ, List.set_cons_zero]; exact rfl); clear hR; intro w hR)
            | ((with_reducible apply wpList_buildS hR); exact rfl; exact rfl; (exact bB3 _ _ _); clear hR; intro gb w hR; (have hS := slI (g := gb) (cur := #[.int .u8 x3, .int .u8 (f.a % 256), .int .u8 y2]) (ns := [x3, f.a % 256, y2]) rfl (by simp)); simp only [List.set_cons_succ, List.set_cons_zero])
            | (go_at_call 22; refine (HF.out _).mono ?_; rintro e w' ⟨rfl, hb⟩; replace hR := hR.grow hb; clear hb)
            | (go_at_call 26; refine (HT.out _).mono ?_; rintro e w' ⟨s1, v1, rfl, hO, hS1⟩; replace hR := hR.join hO; clear hO)
            | (go_at_call 25; refine (putX_any _ _ (by omega) (by omega)).mono ?_; rintro e w' ⟨s1, v1, rfl, hO, hS1⟩; replace hR := hR.join hO; clear hO)
            | ((with_reducible apply wpList_appG hR tBytesI); exact rfl; exact rfl; exact rfl; exact hS; (exact Les.skip _ Les.head); (exact hS1.rd hR (fun r hr => List.mem_append_left _ hr) (ones_fix _)); (simp [maxLen]; omega); (simp; omega); clear hR hS; intro sx v w hR hS; replace hR := hR.drop (List.Sublist.append (List.Sublist.refl _) (List.sublist_append_right _ _)); simp only [List.set_cons_succ, List.set_cons_zero])
            | ((with_reducible apply q_ls hR); exact rfl; ((with_reducible first | apply t_addr (fRec _ (by decide)) | apply t_addr (fFix _ (by decide)) | apply t_one tByteR | apply t_one tSlR | apply t_one tIntR | apply t_one tWordF | apply t_one tBoolF | apply t_part tFix) <;> (first | (apply EvC.gv; exact rfl; (with_reducible first | exact Imp.refl _ | (apply Imp.left; exact Imp.refl _) | (apply Imp.right; exact Imp.refl _) | (apply Imp.left; apply Imp.left; exact Imp.refl _))) | (apply EvC.now; exact rfl) | exact rfl | (with_reducible exact EvAll.nil) | (focus (repeat (first | apply EvAll.cons | exact EvAll.nil | (apply EvC.gv; exact rfl; (with_reducible first | exact Imp.refl _ | (apply Imp.left; exact Imp.refl _) | (apply Imp.right; exact Imp.refl _) | (apply Imp.left; apply Imp.left; exact Imp.refl _))) | (apply EvC.now; exact rfl))); done) | exact ext_fix _ | (focus (repeat (first | apply List.Mem.head | apply List.Mem.tail | apply List.mem_append_right))))); (simp only [List.set_cons_succ, List.set_cons_zero]; exact rfl); clear hR; intro w hR))
        go_ret
        rw [HPP.out] at hok ⊢
        exact ⟨_, _, rfl, hR.drop (List.sublist_append_left _ _), (hS.castF rfl (by simp only [cellsB, List.map_append, List.append_assoc, List.map_nil, List.append_nil, List.nil_append])).srcR hok⟩
      · have HF : Hid (∀ w, Calls Try.prog 22 #[.int .i64 f.fr] w fun e w' => e = .returned (.bool false) ∧ Below w.heap.size w w') := Lib.hid fun w => by have := fixHas_any f.fr w; rwa [show hasB f.fr = false by unfold hasB; simp; omega] at this
        have HPP := Lib.hid (show putF f = [x3, f.a % 256, y2] ++ ([] ++ (idxN f.n ++ bytesN f.d 2)) by rw [HP.out, HDB.out, show frB f = _ from if_neg hfr])
        go_enter Try.func11, Try.ntmps11
        go_wp2_with (first
            | ((with_reducible apply wpList_box hR); exact rfl; exact rfl; clear hR; intro g w hR; simp only [List.set_cons_succ, List.set_cons_zero])
            | (go_at_call 24; refine (fixWithin_any _ _ _ (by omega)).mono ?_; rintro e w' ⟨rfl, hb⟩; replace hR := hR.grow hb; clear hb)
            | ((with_reducible apply q_ls hR); exact rfl; (with_reducible apply t_shlE (k := 2)); (apply EvC.now; exact rfl); (apply EvC.now; exact rfl); exact rfl; (decide); exact H2.out; (simp only [List.set_cons_succ, List.set_cons_zero]; exact rfl); clear hR; intro w hR)
            | ((with_reducible apply q_ls hR); exact rfl; (with_reducible apply t_shlE (k := 4)); (apply EvC.now; exact rfl); (apply EvC.now; exact rfl); exact rfl; (decide); exact H4.out; (simp only [List.set_cons_succ, List.set_cons_zero]; exact rfl); clear hR; intro w hR)
            | ((with_reducible apply q_ls hR); exact rfl; (with_reducible apply t_shrE (k := 8)); (apply EvC.now; exact rfl); (apply EvC.now; exact rfl); exact rfl; (decide); exact H8.out; (simp only [List.set_cons_succ, List.set_cons_zero]; exact rfl); clear hR; intro w hR)
            | ((with_reducible apply q_ls hR); exact rfl; (with_reducible apply t_numE); (apply EvC.now; exact rfl); (apply EvC.now; exact rfl); exact rfl; (with_reducible (first | exact HO1.out | exact HO2.out | exact HO3.out | exact HO4.out | exact HO5.out)); (simp only [List.set_cons_succ, List.set_cons_zero]; exact rfl); clear hR; intro w hR)
            | ((with_reducible apply q_ls hR); exact rfl; (with_reducible apply t_conv Try.underlying3 Try.underlying5); (apply EvC.now; exact rfl); (with_reducible first | exact HC1.out | exact HC2.out | exact HC3.out); (simp only [List.set_cons_succ, List.set_cons_zero]; exact rfl); clear hR; intro w hR)
            | ((with_reducible apply q_ls hR); exact rfl; (with_reducible apply t_one tBoolF); (apply EvC.now; exact rfl); (focus (repeat (first | apply List.Mem.head | apply List.Mem.tail | apply List.mem_append_right))); exact HS.out; (simp only [List.set_cons_succ, List.set_cons_zero]; exact rfl); clear hR; intro w hR)
            | ((with_reducible apply q_ls hR); exact rfl; (with_reducible apply t_cmp); (apply EvC.now; exact rfl); (apply EvC.now; exact rfl); (with_reducible first | exact HD1.out | exact HD2.out); (simp only [List.set_cons_succ, List.set_cons_zero]; exact rfl); clear hR; intro w hR)
            | ((with_reducible apply wpList_buildS hR); exact rfl; exact rfl; (exact bB3 _ _ _); clear hR; intro gb w hR; (have hS := slI (g := gb) (cur := #[.int .u8 x3, .int .u8 (f.a % 256), .int .u8 y2]) (ns := [x3, f.a % 256, y2]) rfl (by simp)); simp only [List.set_cons_succ, List.set_cons_zero])
            | (go_at_call 22; refine (HF.out _).mono ?_; rintro e w' ⟨rfl, hb⟩; replace hR := hR.grow hb; clear hb)
            | (go_at_call 26; refine (HT.out _).mono ?_; rintro e w' ⟨s1, v1, rfl, hO, hS1⟩; replace hR := hR.join hO; clear hO)
            | (go_at_call 25; refine (putX_any _ _ (by omega) (by omega)).mono ?_; rintro e w' ⟨s1, v1, rfl, hO, hS1⟩; replace hR := hR.join hO; clear hO)
            | ((with_reducible apply wpList_appG hR tBytesI); exact rfl; exact rfl; exact rfl; exact hS; (exact Les.skip _ Les.head); (exact hS1.rd hR (fun r hr => List.mem_append_left _ hr) (ones_fix _)); (simp [maxLen]; omega); (simp; omega); clear hR hS; intro sx v w hR hS; replace hR := hR.drop (List.Sublist.append (List.Sublist.refl _) (List.sublist_append_right _ _)); simp only [List.set_cons_succ, List.set_cons_zero])
            | ((with_reducible apply q_ls hR); exact rfl; ((with_reducible first | apply t_addr (fRec _ (by decide)) | apply t_addr (fFix _ (by decide)) | apply t_one tByteR | apply t_one tSlR | apply t_one tIntR | apply t_one tWordF | apply t_one tBoolF | apply t_part tFix) <;> (first | (apply EvC.gv; exact rfl; (with_reducible first | exact Imp.refl _ | (apply Imp.left; exact Imp.refl _) | (apply Imp.right; exact Imp.refl _) | (apply Imp.left; apply Imp.left; exact Imp.refl _))) | (apply EvC.now; exact rfl) | exact rfl | (with_reducible exact EvAll.nil) | (focus (repeat (first | apply EvAll.cons | exact EvAll.nil | (apply EvC.gv; exact rfl; (with_reducible first | exact Imp.refl _ | (apply Imp.left; exact Imp.refl _) | (apply Imp.right; exact Imp.refl _) | (apply Imp.left; apply Imp.left; exact Imp.refl _))) | (apply EvC.now; exact rfl))); done) | exact ext_fix _ | (focus (repeat (first | apply List.Mem.head | apply List.Mem.tail | apply List.mem_append_right))))); (simp only [List.set_cons_succ, List.set_cons_zero]; exact rfl); clear hR; intro w hR))
        go_ret
        rw [HPP.out] at hok ⊢
        exact ⟨_, _, rfl, hR.drop (List.sublist_append_left _ _), (hS.castF rfl (by simp only [cellsB, List.map_append, List.append_assoc, List.map_nil, List.append_nil, List.nil_append])).srcR hok⟩
  · have HS := Lib.hid (show (encF f).toList[2]? = some (.bool true) by rw [← hsf]; rfl)
    rw [hsf] at hX
    obtain rfl : x2 = X := hX.symm
    clear hsf hX
    by_cases hd0 : f.d = 0
    · have HD1 := Lib.hid (show cmpB .eql (f.d : Int) 0 = some true by simp [cmpB, hd0])
      have HD2 := Lib.hid (show cmpB .neq (f.d : Int) 0 = some false by simp [cmpB, hd0])
      obtain rfl : y3 = Y := (hY.trans (if_pos hd0)).symm
      have HDB := Lib.hid (show dB f = [] from if_pos hd0)
      clear hd0 hY
      by_cases hfr : f.fr < 3
      · have HF : Hid (∀ w, Calls Try.prog 22 #[.int .i64 f.fr] w fun e w' => e = .returned (.bool true) ∧ Below w.heap.size w w') := Lib.hid fun w => by have := fixHas_any f.fr w; rwa [show hasB f.fr = true by unfold hasB; simp; omega] at this
        have HPP := Lib.hid (show putF f = [x2, f.a % 256, y3] ++ (idxN f.fn ++ (idxN f.n ++ [])) by rw [HP.out, HDB.out, show frB f = _ from if_pos hfr])
        go_enter Try.func11, Try.ntmps11
        go_wp2_with (first
            | ((with_reducible apply wpList_box hR); exact rfl; exact rfl; clear hR; intro g w hR; simp only [List.set_cons_succ, List.set_cons_zero])
            | (go_at_call 24; refine (fixWithin_any _ _ _ (by omega)).mono ?_; rintro e w' ⟨rfl, hb⟩; replace hR := hR.grow hb; clear hb)
            | ((with_reducible apply q_ls hR); exact rfl; (with_reducible apply t_shlE (k := 2)); (apply EvC.now; exact rfl); (apply EvC.now; exact rfl); exact rfl; (decide); exact H2.out; (simp only [List.set_cons_succ, List.set_cons_zero]; exact rfl); clear hR; intro w hR)
            | ((with_reducible apply q_ls hR); exact rfl; (with_reducible apply t_shlE (k := 4)); (apply EvC.now; exact rfl); (apply EvC.now; exact rfl); exact rfl; (decide); exact H4.out; (simp only [List.set_cons_succ, List.set_cons_zero]; exact rfl); clear hR; intro w hR)
            | ((with_reducible apply q_ls hR); exact rfl; (with_reducible apply t_shrE (k := 8)); (apply EvC.now; exact rfl); (apply EvC.now; exact rfl); exact rfl; (decide); exact H8.out; (simp only [List.set_cons_succ, List.set_cons_zero]; exact rfl); clear hR; intro w hR)
            | ((with_reducible apply q_ls hR); exact rfl; (with_reducible apply t_numE); (apply EvC.now; exact rfl); (apply EvC.now; exact rfl); exact rfl; (with_reducible (first | exact HO1.out | exact HO2.out | exact HO3.out | exact HO4.out | exact HO5.out)); (simp only [List.set_cons_succ, List.set_cons_zero]; exact rfl); clear hR; intro w hR)
            | ((with_reducible apply q_ls hR); exact rfl; (with_reducible apply t_conv Try.underlying3 Try.underlying5); (apply EvC.now; exact rfl); (with_reducible first | exact HC1.out | exact HC2.out | exact HC3.out); (simp only [List.set_cons_succ, List.set_cons_zero]; exact rfl); clear hR; intro w hR)
            | ((with_reducible apply q_ls hR); exact rfl; (with_reducible apply t_one tBoolF); (apply EvC.now; exact rfl); (focus (repeat (first | apply List.Mem.head | apply List.Mem.tail | apply List.mem_append_right))); exact HS.out; (simp only [List.set_cons_succ, List.set_cons_zero]; exact rfl); clear hR; intro w hR)
            | ((with_reducible apply q_ls hR); exact rfl; (with_reducible apply t_cmp); (apply EvC.now; exact rfl); (apply EvC.now; exact rfl); (with_reducible first | exact HD1.out | exact HD2.out); (simp only [List.set_cons_succ, List.set_cons_zero]; exact rfl); clear hR; intro w hR)
            | ((with_reducible apply wpList_buildS hR); exact rfl; exact rfl; (exact bB3 _ _ _); clear hR; intro gb w hR; (have hS := slI (g := gb) (cur := #[.int .u8 x2, .int .u8 (f.a % 256), .int .u8 y3]) (ns := [x2, f.a % 256, y3]) rfl (by simp)); simp only [List.set_cons_succ, List.set_cons_zero])
            | (go_at_call 22; refine (HF.out _).mono ?_; rintro e w' ⟨rfl, hb⟩; replace hR := hR.grow hb; clear hb)
            | (go_at_call 26; refine (HT.out _).mono ?_; rintro e w' ⟨s1, v1, rfl, hO, hS1⟩; replace hR := hR.join hO; clear hO)
            | (go_at_call 25; refine (putX_any _ _ (by omega) (by omega)).mono ?_; rintro e w' ⟨s1, v1, rfl, hO, hS1⟩; replace hR := hR.join hO; clear hO)
            | ((with_reducible apply wpList_appG hR tBytesI); exact rfl; exact rfl; exact rfl; exact hS; (exact Les.skip _ Les.head); (exact hS1.rd hR (fun r hr => List.mem_append_left _ hr) (ones_fix _)); (simp [maxLen]; omega); (simp; omega); clear hR hS; intro sx v w hR hS; replace hR := hR.drop (List.Sublist.append (List.Sublist.refl _) (List.sublist_append_right _ _)); simp only [List.set_cons_succ, List.set_cons_zero])
            | ((with_reducible apply q_ls hR); exact rfl; ((with_reducible first | apply t_addr (fRec _ (by decide)) | apply t_addr (fFix _ (by decide)) | apply t_one tByteR | apply t_one tSlR | apply t_one tIntR | apply t_one tWordF | apply t_one tBoolF | apply t_part tFix) <;> (first | (apply EvC.gv; exact rfl; (with_reducible first | exact Imp.refl _ | (apply Imp.left; exact Imp.refl _) | (apply Imp.right; exact Imp.refl _) | (apply Imp.left; apply Imp.left; exact Imp.refl _))) | (apply EvC.now; exact rfl) | exact rfl | (with_reducible exact EvAll.nil) | (focus (repeat (first | apply EvAll.cons | exact EvAll.nil | (apply EvC.gv; exact rfl; (with_reducible first | exact Imp.refl _ | (apply Imp.left; exact Imp.refl _) | (apply Imp.right; exact Imp.refl _) | (apply Imp.left; apply Imp.left; exact Imp.refl _))) | (apply EvC.now; exact rfl))); done) | exact ext_fix _ | (focus (repeat (first | apply List.Mem.head | apply List.Mem.tail | apply List.mem_append_right))))); (simp only [List.set_cons_succ, List.set_cons_zero]; exact rfl); clear hR; intro w hR))
        go_ret
        rw [HPP.out] at hok ⊢
        exact ⟨_, _, rfl, hR.drop (List.sublist_append_left _ _), (hS.castF rfl (by simp only [cellsB, List.map_append, List.append_assoc, List.map_nil, List.append_nil, List.nil_append])).srcR hok⟩
      · have HF : Hid (∀ w, Calls Try.prog 22 #[.int .i64 f.fr] w fun e w' => e = .returned (.bool false) ∧ Below w.heap.size w w') := Lib.hid fun w => by have := fixHas_any f.fr w; rwa [show hasB f.fr = false by unfold hasB; simp; omega] at this
        have HPP := Lib.hid (show putF f = [x2, f.a % 256, y3] ++ ([] ++ (idxN f.n ++ [])) by rw [HP.out, HDB.out, show frB f = _ from if_neg hfr])
        go_enter Try.func11, Try.ntmps11
        go_wp2_with (first
            | ((with_reducible apply wpList_box hR); exact rfl; exact rfl; clear hR; intro g w hR; simp only [List.set_cons_succ, List.set_cons_zero])
            | (go_at_call 24; refine (fixWithin_any _ _ _ (by omega)).mono ?_; rintro e w' ⟨rfl, hb⟩; replace hR := hR.grow hb; clear hb)
            | ((with_reducible apply q_ls hR); exact rfl; (with_reducible apply t_shlE (k := 2)); (apply EvC.now; exact rfl); (apply EvC.now; exact rfl); exact rfl; (decide); exact H2.out; (simp only [List.set_cons_succ, List.set_cons_zero]; exact rfl); clear hR; intro w hR)
            | ((with_reducible apply q_ls hR); exact rfl; (with_reducible apply t_shlE (k := 4)); (apply EvC.now; exact rfl); (apply EvC.now; exact rfl); exact rfl; (decide); exact H4.out; (simp only [List.set_cons_succ, List.set_cons_zero]; exact rfl); clear hR; intro w hR)
            | ((with_reducible apply q_ls hR); exact rfl; (with_reducible apply t_shrE (k := 8)); (apply EvC.now; exact rfl); (apply EvC.now; exact rfl); exact rfl; (decide); exact H8.out; (simp only [List.set_cons_succ, List.set_cons_zero]; exact rfl); clear hR; intro w hR)
            | ((with_reducible apply q_ls hR); exact rfl; (with_reducible apply t_numE); (apply EvC.now; exact rfl); (apply EvC.now; exact rfl); exact rfl; (with_reducible (first | exact HO1.out | exact HO2.out | exact HO3.out | exact HO4.out | exact HO5.out)); (simp only [List.set_cons_succ, List.set_cons_zero]; exact rfl); clear hR; intro w hR)
            | ((with_reducible apply q_ls hR); exact rfl; (with_reducible apply t_conv Try.underlying3 Try.underlying5); (apply EvC.now; exact rfl); (with_reducible first | exact HC1.out | exact HC2.out | exact HC3.out); (simp only [List.set_cons_succ, List.set_cons_zero]; exact rfl); clear hR; intro w hR)
            | ((with_reducible apply q_ls hR); exact rfl; (with_reducible apply t_one tBoolF); (apply EvC.now; exact rfl); (focus (repeat (first | apply List.Mem.head | apply List.Mem.tail | apply List.mem_append_right))); exact HS.out; (simp only [List.set_cons_succ, List.set_cons_zero]; exact rfl); clear hR; intro w hR)
            | ((with_reducible apply q_ls hR); exact rfl; (with_reducible apply t_cmp); (apply EvC.now; exact rfl); (apply EvC.now; exact rfl); (with_reducible first | exact HD1.out | exact HD2.out); (simp only [List.set_cons_succ, List.set_cons_zero]; exact rfl); clear hR; intro w hR)
            | ((with_reducible apply wpList_buildS hR); exact rfl; exact rfl; (exact bB3 _ _ _); clear hR; intro gb w hR; (have hS := slI (g := gb) (cur := #[.int .u8 x2, .int .u8 (f.a % 256), .int .u8 y3]) (ns := [x2, f.a % 256, y3]) rfl (by simp)); simp only [List.set_cons_succ, List.set_cons_zero])
            | (go_at_call 22; refine (HF.out _).mono ?_; rintro e w' ⟨rfl, hb⟩; replace hR := hR.grow hb; clear hb)
            | (go_at_call 26; refine (HT.out _).mono ?_; rintro e w' ⟨s1, v1, rfl, hO, hS1⟩; replace hR := hR.join hO; clear hO)
            | (go_at_call 25; refine (putX_any _ _ (by omega) (by omega)).mono ?_; rintro e w' ⟨s1, v1, rfl, hO, hS1⟩; replace hR := hR.join hO; clear hO)
            | ((with_reducible apply wpList_appG hR tBytesI); exact rfl; exact rfl; exact rfl; exact hS; (exact Les.skip _ Les.head); (exact hS1.rd hR (fun r hr => List.mem_append_left _ hr) (ones_fix _)); (simp [maxLen]; omega); (simp; omega); clear hR hS; intro sx v w hR hS; replace hR := hR.drop (List.Sublist.append (List.Sublist.refl _) (List.sublist_append_right _ _)); simp only [List.set_cons_succ, List.set_cons_zero])
            | ((with_reducible apply q_ls hR); exact rfl; ((with_reducible first | apply t_addr (fRec _ (by decide)) | apply t_addr (fFix _ (by decide)) | apply t_one tByteR | apply t_one tSlR | apply t_one tIntR | apply t_one tWordF | apply t_one tBoolF | apply t_part tFix) <;> (first | (apply EvC.gv; exact rfl; (with_reducible first | exact Imp.refl _ | (apply Imp.left; exact Imp.refl _) | (apply Imp.right; exact Imp.refl _) | (apply Imp.left; apply Imp.left; exact Imp.refl _))) | (apply EvC.now; exact rfl) | exact rfl | (with_reducible exact EvAll.nil) | (focus (repeat (first | apply EvAll.cons | exact EvAll.nil | (apply EvC.gv; exact rfl; (with_reducible first | exact Imp.refl _ | (apply Imp.left; exact Imp.refl _) | (apply Imp.right; exact Imp.refl _) | (apply Imp.left; apply Imp.left; exact Imp.refl _))) | (apply EvC.now; exact rfl))); done) | exact ext_fix _ | (focus (repeat (first | apply List.Mem.head | apply List.Mem.tail | apply List.mem_append_right))))); (simp only [List.set_cons_succ, List.set_cons_zero]; exact rfl); clear hR; intro w hR))
        go_ret
        rw [HPP.out] at hok ⊢
        exact ⟨_, _, rfl, hR.drop (List.sublist_append_left _ _), (hS.castF rfl (by simp only [cellsB, List.map_append, List.append_assoc, List.map_nil, List.append_nil, List.nil_append])).srcR hok⟩
    · have HD1 := Lib.hid (show cmpB .eql (f.d : Int) 0 = some false by simp [cmpB, hd0])
      have HD2 := Lib.hid (show cmpB .neq (f.d : Int) 0 = some true by simp [cmpB, hd0])
      obtain rfl : y2 = Y := (hY.trans (if_neg hd0)).symm
      have HDB := Lib.hid (show dB f = bytesN f.d 2 from if_neg hd0)
      clear hd0 hY
      by_cases hfr : f.fr < 3
      · have HF : Hid (∀ w, Calls Try.prog 22 #[.int .i64 f.fr] w fun e w' => e = .returned (.bool true) ∧ Below w.heap.size w w') := Lib.hid fun w => by have := fixHas_any f.fr w; rwa [show hasB f.fr = true by unfold hasB; simp; omega] at this
        have HPP := Lib.hid (show putF f = [x2, f.a % 256, y2] ++ (idxN f.fn ++ (idxN f.n ++ bytesN f.d 2)) by rw [HP.out, HDB.out, show frB f = _ from if_pos hfr])
        go_enter Try.func11, Try.ntmps11
        go_wp2_with (first
            | ((with_reducible apply wpList_box hR); exact rfl; exact rfl; clear hR; intro g w hR; simp only [List.set_cons_succ, List.set_cons_zero])
            | (go_at_call 24; refine (fixWithin_any _ _ _ (by omega)).mono ?_; rintro e w' ⟨rfl, hb⟩; replace hR := hR.grow hb; clear hb)
            | ((with_reducible apply q_ls hR); exact rfl; (with_reducible apply t_shlE (k := 2)); (apply EvC.now; exact rfl); (apply EvC.now; exact rfl); exact rfl; (decide); exact H2.out; (simp only [List.set_cons_succ, List.set_cons_zero]; exact rfl); clear hR; intro w hR)
            | ((with_reducible apply q_ls hR); exact rfl; (with_reducible apply t_shlE (k := 4)); (apply EvC.now; exact rfl); (apply EvC.now; exact rfl); exact rfl; (decide); exact H4.out; (simp only [List.set_cons_succ, List.set_cons_zero]; exact rfl); clear hR; intro w hR)
            | ((with_reducible apply q_ls hR); exact rfl; (with_reducible apply t_shrE (k := 8)); (apply EvC.now; exact rfl); (apply EvC.now; exact rfl); exact rfl; (decide); exact H8.out; (simp only [List.set_cons_succ, List.set_cons_zero]; exact rfl); clear hR; intro w hR)
            | ((with_reducible apply q_ls hR); exact rfl; (with_reducible apply t_numE); (apply EvC.now; exact rfl); (apply EvC.now; exact rfl); exact rfl; (with_reducible (first | exact HO1.out | exact HO2.out | exact HO3.out | exact HO4.out | exact HO5.out)); (simp only [List.set_cons_succ, List.set_cons_zero]; exact rfl); clear hR; intro w hR)
            | ((with_reducible apply q_ls hR); exact rfl; (with_reducible apply t_conv Try.underlying3 Try.underlying5); (apply EvC.now; exact rfl); (with_reducible first | exact HC1.out | exact HC2.out | exact HC3.out); (simp only [List.set_cons_succ, List.set_cons_zero]; exact rfl); clear hR; intro w hR)
            | ((with_reducible apply q_ls hR); exact rfl; (with_reducible apply t_one tBoolF); (apply EvC.now; exact rfl); (focus (repeat (first | apply List.Mem.head | apply List.Mem.tail | apply List.mem_append_right))); exact HS.out; (simp only [List.set_cons_succ, List.set_cons_zero]; exact rfl); clear hR; intro w hR)
            | ((with_reducible apply q_ls hR); exact rfl; (with_reducible apply t_cmp); (apply EvC.now; exact rfl); (apply EvC.now; exact rfl); (with_reducible first | exact HD1.out | exact HD2.out); (simp only [List.set_cons_succ, List.set_cons_zero]; exact rfl); clear hR; intro w hR)
            | ((with_reducible apply wpList_buildS hR); exact rfl; exact rfl; (exact bB3 _ _ _); clear hR; intro gb w hR; (have hS := slI (g := gb) (cur := #[.int .u8 x2, .int .u8 (f.a % 256), .int .u8 y2]) (ns := [x2, f.a % 256, y2]) rfl (by simp)); simp only [List.set_cons_succ, List.set_cons_zero])
            | (go_at_call 22; refine (HF.out _).mono ?_; rintro e w' ⟨rfl, hb⟩; replace hR := hR.grow hb; clear hb)
            | (go_at_call 26; refine (HT.out _).mono ?_; rintro e w' ⟨s1, v1, rfl, hO, hS1⟩; replace hR := hR.join hO; clear hO)
            | (go_at_call 25; refine (putX_any _ _ (by omega) (by omega)).mono ?_; rintro e w' ⟨s1, v1, rfl, hO, hS1⟩; replace hR := hR.join hO; clear hO)
            | ((with_reducible apply wpList_appG hR tBytesI); exact rfl; exact rfl; exact rfl; exact hS; (exact Les.skip _ Les.head); (exact hS1.rd hR (fun r hr => List.mem_append_left _ hr) (ones_fix _)); (simp [maxLen]; omega); (simp; omega); clear hR hS; intro sx v w hR hS; replace hR := hR.drop (List.Sublist.append (List.Sublist.refl _) (List.sublist_append_right _ _)); simp only [List.set_cons_succ, List.set_cons_zero])
            | ((with_reducible apply q_ls hR); exact rfl; ((with_reducible first | apply t_addr (fRec _ (by decide)) | apply t_addr (fFix _ (by decide)) | apply t_one tByteR | apply t_one tSlR | apply t_one tIntR | apply t_one tWordF | apply t_one tBoolF | apply t_part tFix) <;> (first | (apply EvC.gv; exact rfl; (with_reducible first | exact Imp.refl _ | (apply Imp.left; exact Imp.refl _) | (apply Imp.right; exact Imp.refl _) | (apply Imp.left; apply Imp.left; exact Imp.refl _))) | (apply EvC.now; exact rfl) | exact rfl | (with_reducible exact EvAll.nil) | (focus (repeat (first | apply EvAll.cons | exact EvAll.nil | (apply EvC.gv; exact rfl; (with_reducible first | exact Imp.refl _ | (apply Imp.left; exact Imp.refl _) | (apply Imp.right; exact Imp.refl _) | (apply Imp.left; apply Imp.left; exact Imp.refl _))) | (apply EvC.now; exact rfl))); done) | exact ext_fix _ | (focus (repeat (first | apply List.Mem.head | apply List.Mem.tail | apply List.mem_append_right))))); (simp only [List.set_cons_succ, List.set_cons_zero]; exact rfl); clear hR; intro w hR))
        go_ret
        rw [HPP.out] at hok ⊢
        exact ⟨_, _, rfl, hR.drop (List.sublist_append_left _ _), (hS.castF rfl (by simp only [cellsB, List.map_append, List.append_assoc, List.map_nil, List.append_nil, List.nil_append])).srcR hok⟩
      · have HF : Hid (∀ w, Calls Try.prog 22 #[.int .i64 f.fr] w fun e w' => e = .returned (.bool false) ∧ Below w.heap.size w w') := Lib.hid fun w => by have := fixHas_any f.fr w; rwa [show hasB f.fr = false by unfold hasB; simp; omega] at this
        have HPP := Lib.hid (show putF f = [x2, f.a % 256, y2] ++ ([] ++ (idxN f.n ++ bytesN f.d 2)) by rw [HP.out, HDB.out, show frB f = _ from if_neg hfr])
        go_enter Try.func11, Try.ntmps11
        go_wp2_with (first
            | ((with_reducible apply wpList_box hR); exact rfl; exact rfl; clear hR; intro g w hR; simp only [List.set_cons_succ, List.set_cons_zero])
            | (go_at_call 24; refine (fixWithin_any _ _ _ (by omega)).mono ?_; rintro e w' ⟨rfl, hb⟩; replace hR := hR.grow hb; clear hb)
            | ((with_reducible apply q_ls hR); exact rfl; (with_reducible apply t_shlE (k := 2)); (apply EvC.now; exact rfl); (apply EvC.now; exact rfl); exact rfl; (decide); exact H2.out; (simp only [List.set_cons_succ, List.set_cons_zero]; exact rfl); clear hR; intro w hR)
            | ((with_reducible apply q_ls hR); exact rfl; (with_reducible apply t_shlE (k := 4)); (apply EvC.now; exact rfl); (apply EvC.now; exact rfl); exact rfl; (decide); exact H4.out; (simp only [List.set_cons_succ, List.set_cons_zero]; exact rfl); clear hR; intro w hR)
            | ((with_reducible apply q_ls hR); exact rfl; (with_reducible apply t_shrE (k := 8)); (apply EvC.now; exact rfl); (apply EvC.now; exact rfl); exact rfl; (decide); exact H8.out; (simp only [List.set_cons_succ, List.set_cons_zero]; exact rfl); clear hR; intro w hR)
            | ((with_reducible apply q_ls hR); exact rfl; (with_reducible apply t_numE); (apply EvC.now; exact rfl); (apply EvC.now; exact rfl); exact rfl; (with_reducible (first | exact HO1.out | exact HO2.out | exact HO3.out | exact HO4.out | exact HO5.out)); (simp only [List.set_cons_succ, List.set_cons_zero]; exact rfl); clear hR; intro w hR)
            | ((with_reducible apply q_ls hR); exact rfl; (with_reducible apply t_conv Try.underlying3 Try.underlying5); (apply EvC.now; exact rfl); (with_reducible first | exact HC1.out | exact HC2.out | exact HC3.out); (simp only [List.set_cons_succ, List.set_cons_zero]; exact rfl); clear hR; intro w hR)
            | ((with_reducible apply q_ls hR); exact rfl; (with_reducible apply t_one tBoolF); (apply EvC.now; exact rfl); (focus (repeat (first | apply List.Mem.head | apply List.Mem.tail | apply List.mem_append_right))); exact HS.out; (simp only [List.set_cons_succ, List.set_cons_zero]; exact rfl); clear hR; intro w hR)
            | ((with_reducible apply q_ls hR); exact rfl; (with_reducible apply t_cmp); (apply EvC.now; exact rfl); (apply EvC.now; exact rfl); (with_reducible first | exact HD1.out | exact HD2.out); (simp only [List.set_cons_succ, List.set_cons_zero]; exact rfl); clear hR; intro w hR)
            | ((with_reducible apply wpList_buildS hR); exact rfl; exact rfl; (exact bB3 _ _ _); clear hR; intro gb w hR; (have hS := slI (g := gb) (cur := #[.int .u8 x2, .int .u8 (f.a % 256), .int .u8 y2]) (ns := [x2, f.a % 256, y2]) rfl (by simp)); simp only [List.set_cons_succ, List.set_cons_zero])
            | (go_at_call 22; refine (HF.out _).mono ?_; rintro e w' ⟨rfl, hb⟩; replace hR := hR.grow hb; clear hb)
            | (go_at_call 26; refine (HT.out _).mono ?_; rintro e w' ⟨s1, v1, rfl, hO, hS1⟩; replace hR := hR.join hO; clear hO)
            | (go_at_call 25; refine (putX_any _ _ (by omega) (by omega)).mono ?_; rintro e w' ⟨s1, v1, rfl, hO, hS1⟩; replace hR := hR.join hO; clear hO)
            | ((with_reducible apply wpList_appG hR tBytesI); exact rfl; exact rfl; exact rfl; exact hS; (exact Les.skip _ Les.head); (exact hS1.rd hR (fun r hr => List.mem_append_left _ hr) (ones_fix _)); (simp [maxLen]; omega); (simp; omega); clear hR hS; intro sx v w hR hS; replace hR := hR.drop (List.Sublist.append (List.Sublist.refl _) (List.sublist_append_right _ _)); simp only [List.set_cons_succ, List.set_cons_zero])
            | ((with_reducible apply q_ls hR); exact rfl; ((with_reducible first | apply t_addr (fRec _ (by decide)) | apply t_addr (fFix _ (by decide)) | apply t_one tByteR | apply t_one tSlR | apply t_one tIntR | apply t_one tWordF | apply t_one tBoolF | apply t_part tFix) <;> (first | (apply EvC.gv; exact rfl; (with_reducible first | exact Imp.refl _ | (apply Imp.left; exact Imp.refl _) | (apply Imp.right; exact Imp.refl _) | (apply Imp.left; apply Imp.left; exact Imp.refl _))) | (apply EvC.now; exact rfl) | exact rfl | (with_reducible exact EvAll.nil) | (focus (repeat (first | apply EvAll.cons | exact EvAll.nil | (apply EvC.gv; exact rfl; (with_reducible first | exact Imp.refl _ | (apply Imp.left; exact Imp.refl _) | (apply Imp.right; exact Imp.refl _) | (apply Imp.left; apply Imp.left; exact Imp.refl _))) | (apply EvC.now; exact rfl))); done) | exact ext_fix _ | (focus (repeat (first | apply List.Mem.head | apply List.Mem.tail | apply List.mem_append_right))))); (simp only [List.set_cons_succ, List.set_cons_zero]; exact rfl); clear hR; intro w hR))
        go_ret
        rw [HPP.out] at hok ⊢
        exact ⟨_, _, rfl, hR.drop (List.sublist_append_left _ _), (hS.castF rfl (by simp only [cellsB, List.map_append, List.append_assoc, List.map_nil, List.append_nil, List.nil_append])).srcR hok⟩
end Go.Proofs.Ytimciiaajlfkoaa
