









/- The contracts of package iter: a block's bytes, spread and its own. No statement of the seat is proved here. -/
import Derived.Test.YtalgadinoaeihaaItrA
import Derived.Test.YtalgadinoaeihaaRep
import Derived.Test.YtalgadinoaeihaaR24
namespace Go.Proofs.Ytalgadinoaeihaa
open Go.ChangeShapes Go.WideShapes Go.ChangeAt Go.RowKit
set_option linter.unusedVariables false
set_option linter.unusedSimpArgs false

theorem ok_flat {a : List Int} (h : bytesOk a) : ∀ (n : Nat), bytesOk (List.replicate n a).flatten
  | 0 => .nil
  | n + 1 => by rw [List.replicate_succ, List.flatten_cons]; exact h.append (ok_flat h n)
theorem spreadL_ok : ∀ {l : List BlkZ}, (∀ z ∈ l, bytesOk (spreadB z)) → bytesOk (spreadL l)
  | [], _ => by rw [spreadL]; exact .nil
  | z :: l, h => by rw [spreadL]; exact (h z (.head _)).append (spreadL_ok fun x hx => h x (.tail _ hx))
theorem BlkAt.spread_ok {w : World} {d : BlkV} {z : BlkZ} (h : BlkAt w d z) : bytesOk (spreadB z) := by
  induction h with
  | mk ht hv hm hx hn hd ih =>
    rename_i ds l
    rw [spreadB]
    refine ok_flat (hv.ok.append (spreadL_ok fun z hz => ?_)) _
    obtain ⟨i, hi, rfl⟩ := List.mem_iff_getElem.1 hz
    exact ih i _ _ (List.getElem?_eq_getElem (by omega)) (List.getElem?_eq_getElem hi)
theorem spreadL_le {l : List BlkZ} (k : Nat) : (spreadL (l.take k)).length ≤ (spreadL l).length := by
  have h := spreadL_append (l.take k) (l.drop k)
  rw [List.take_append_drop] at h
  rw [h, List.length_append]
  omega
theorem spread_node {t : Int} {b : List Int} {l : List BlkZ} (ht : 1 ≤ t) (hb : b = []) : (spreadL l).length ≤ (spreadB (.mk t b l)).length := by
  subst hb
  simp only [spreadB, flat_rep, List.nil_append]
  have := Nat.mul_le_mul_right (spreadL l).length (show 1 ≤ t.toNat by omega)
  omega
theorem spreadL_sub {l : List BlkZ} {k : Nat} {z : BlkZ} (h : l[k]? = some z) : (spreadL (l.take k)).length + (spreadB z).length ≤ (spreadL l).length := by
  have h1 := congrArg List.length (spreadL_more h)
  rw [List.length_append] at h1
  have h2 := spreadL_le (l := l) (k + 1)
  omega
set_option maxHeartbeats 4000000 in
set_option maxRecDepth 100000 in
theorem ispread_any : ∀ (n : Nat) (z : BlkZ), mayB n z = true → (spreadB z).length ≤ 100000 → ∀ (d : BlkV) (w0 : World), BlkAt w0 d z →
    Calls Try.prog 18 #[.agg (encK d.t d.v d.x)] w0 fun e w' => RowsB w0 w' e (spreadB z) := by
  intro n
  induction n with
  | zero => intro z h; simp [mayB] at h
  | succ n IH0 =>
    intro z hmay hlen100 d w0 hB
    have hok := hB.spread_ok
    obtain @⟨t, v, x, bs, ds, l, ht, hv, hm, hx, hlen, hd⟩ := hB
    have IH := Lib.hid IH0
    clear IH0
    have hRd : Rd w0 3 x l.length (ds.flatMap cellsK) := by rw [← hlen]; exact hx
    have ht1 : 1 ≤ t ∧ t ≤ 65535 := by
      cases l with
      | nil => exact (may_leaf hmay).1
      | cons z l => exact (may_node hmay).1
    obtain ⟨u, rfl⟩ : ∃ u : Nat, t = u := Int.eq_ofNat_of_zero_le (by omega)
    obtain ⟨S, hSe⟩ : ∃ S, spreadB (.mk (u : Int) bs l) = S := ⟨_, rfl⟩
    have hR := Own.start w0
    dsimp only
    by_cases hl0 : l.length = 0
    · obtain rfl : l = [] := List.eq_nil_of_length_eq_zero hl0
      obtain ⟨_, hb1, hb2⟩ := may_leaf hmay
      have hE : spreadB (.mk (u : Int) bs []) = (List.replicate u bs).flatten := by simp only [spreadB, spreadL, List.append_nil, Int.toNat_natCast]
      rw [hE] at hlen100 hok hSe ⊢
      have hl2 : u * bs.length ≤ 100000 := by rw [flat_rep] at hlen100; exact hlen100
      have HREP := Lib.hid (fun (w : World) (r : List RowT) (hO : Own w0 w r) => repeat_any (hv.own hO) (t := u) (by omega) (by omega) (by omega) (by omega))
      rw [hSe] at HREP ⊢
      have HL := Lib.hid (show u * bs.length = S.length by rw [← hSe, flat_rep])
      rw [HL.out] at HREP
      have hSl : S.length ≤ 100000 := by rw [← hSe]; exact hlen100
      clear hSe hE
      go_enter Try.func18, Try.ntmps18
      go_upto_if 9 with (first
    | ((with_reducible apply wpList_box hR); exact rfl; exact rfl; clear hR; intro g1 w hR; simp only [List.set_cons_succ, List.set_cons_zero])
    | ((with_reducible apply q_ls hR); exact rfl; (with_reducible apply t_lenRd Try.underlying23); (apply EvC.now; exact rfl); exact hRd; (simp only [List.set_cons_succ, List.set_cons_zero]; exact rfl); clear hR; intro w hR)
    | ((with_reducible apply q_ls hR); exact rfl; ((with_reducible first | apply t_addr (fRec _ (by decide)) | apply t_addr (fBlk _ (by decide)) | apply t_one tByteR | apply t_one tSlR | apply t_one tIntR | apply t_one tBlks | apply t_part tBlk) <;> (first | (apply EvC.gv; exact rfl; (with_reducible first | exact Imp.refl _ | (apply Imp.left; exact Imp.refl _) | (apply Imp.right; exact Imp.refl _) | (apply Imp.left; apply Imp.left; exact Imp.refl _))) | (apply EvC.now; exact rfl) | exact rfl | (with_reducible exact EvAll.nil) | (focus (repeat (first | apply EvAll.cons | exact EvAll.nil | (apply EvC.gv; exact rfl; (with_reducible first | exact Imp.refl _ | (apply Imp.left; exact Imp.refl _) | (apply Imp.right; exact Imp.refl _) | (apply Imp.left; apply Imp.left; exact Imp.refl _))) | (apply EvC.now; exact rfl))); done) | exact ext_blk _ _ _ | (focus (repeat (first | apply List.Mem.head | apply List.Mem.tail | apply List.mem_append_right))))); (simp only [List.set_cons_succ, List.set_cons_zero]; exact rfl); clear hR; intro w hR))
      refine wp_cond_at (nm := true) rfl (by simp) (fun _ => ?_) (fun h => absurd h (by decide))
      go_wp2_with (first
    | (go_at_call 33; refine (HREP.out _ _ hR).mono ?_; rintro e w' ⟨g, rfl, hO⟩; replace hR := hR.join hO; clear hO)
    | ((with_reducible apply q_ls hR); exact rfl; ((with_reducible first | apply t_addr (fRec _ (by decide)) | apply t_addr (fBlk _ (by decide)) | apply t_one tByteR | apply t_one tSlR | apply t_one tIntR | apply t_one tBlks | apply t_part tBlk) <;> (first | (apply EvC.gv; exact rfl; (with_reducible first | exact Imp.refl _ | (apply Imp.left; exact Imp.refl _) | (apply Imp.right; exact Imp.refl _) | (apply Imp.left; apply Imp.left; exact Imp.refl _))) | (apply EvC.now; exact rfl) | exact rfl | (with_reducible exact EvAll.nil) | (focus (repeat (first | apply EvAll.cons | exact EvAll.nil | (apply EvC.gv; exact rfl; (with_reducible first | exact Imp.refl _ | (apply Imp.left; exact Imp.refl _) | (apply Imp.right; exact Imp.refl _) | (apply Imp.left; apply Imp.left; exact Imp.refl _))) | (apply EvC.now; exact rfl))); done) | exact ext_blk _ _ _ | (focus (repeat (first | apply List.Mem.head | apply List.Mem.tail | apply List.mem_append_right))))); (simp only [List.set_cons_succ, List.set_cons_zero]; exact rfl); clear hR; intro w hR))
      go_ret
      refine ⟨_, _, rfl, hR.drop (List.sublist_append_left _ _), ?_⟩
      exact (RwIs.all (k := 1) (n := S.length) (c := (cellsB S).toArray) (by simp [cellsB_len]) (by omega)).sl
    · have hl1 : l ≠ [] := fun h => hl0 (by rw [h]; rfl)
      obtain ⟨hb0, hlm, hmz⟩ : bs = [] ∧ l.length ≤ 65535 ∧ ∀ z ∈ l, mayB n z = true := by
        cases l with
        | nil => exact absurd rfl hl1
        | cons z l =>
          obtain ⟨h1, h2, h3, h4, h5⟩ := may_node hmay
          refine ⟨h2, h3, fun x hx => ?_⟩
          rcases List.mem_cons.1 hx with rfl | hx
          · exact h4
          · exact h5 x hx
      have htot := spread_node (l := l) ht1.1 hb0
      have hE : spreadB (.mk (u : Int) bs l) = (List.replicate u (spreadL l)).flatten := by rw [hb0]; simp only [spreadB, List.nil_append, Int.toNat_natCast]
      have hLok := spreadL_ok (l := l) fun z hz => by
        obtain ⟨i, hi, rfl⟩ := List.mem_iff_getElem.1 hz
        exact (hd i _ _ (List.getElem?_eq_getElem (by omega)) (List.getElem?_eq_getElem hi)).spread_ok
      have hLl : (spreadL l).length ≤ 100000 := by omega
      have hl2 : u * (spreadL l).length ≤ 100000 := by rw [hE, flat_rep] at hlen100; exact hlen100
      have hsub : ∀ (k : Nat) (z : BlkZ), l[k]? = some z → (spreadL (l.take k)).length + (spreadB z).length ≤ 100000 := fun k z hz => by
        have := spreadL_sub hz
        omega
      have HREP := Lib.hid (fun (w : World) (v : Value) (hv : SrcW w v (spreadL l)) => repeat_any hv (t := u) (by omega) (by omega) (by omega) (by omega))
      rw [← hE, hSe] at HREP
      have HL := Lib.hid (show u * (spreadL l).length = S.length by rw [← hSe, hE, flat_rep])
      rw [HL.out] at HREP
      rw [hSe] at hlen100 ⊢
      clear hSe hE htot hok hl2
      go_enter Try.func18, Try.ntmps18
      go_upto_if 9 with (first
    | ((with_reducible apply wpList_box hR); exact rfl; exact rfl; clear hR; intro g1 w hR; simp only [List.set_cons_succ, List.set_cons_zero])
    | ((with_reducible apply q_ls hR); exact rfl; (with_reducible apply t_lenRd Try.underlying23); (apply EvC.now; exact rfl); exact hRd; (simp only [List.set_cons_succ, List.set_cons_zero]; exact rfl); clear hR; intro w hR)
    | ((with_reducible apply q_ls hR); exact rfl; ((with_reducible first | apply t_addr (fRec _ (by decide)) | apply t_addr (fBlk _ (by decide)) | apply t_one tByteR | apply t_one tSlR | apply t_one tIntR | apply t_one tBlks | apply t_part tBlk) <;> (first | (apply EvC.gv; exact rfl; (with_reducible first | exact Imp.refl _ | (apply Imp.left; exact Imp.refl _) | (apply Imp.right; exact Imp.refl _) | (apply Imp.left; apply Imp.left; exact Imp.refl _))) | (apply EvC.now; exact rfl) | exact rfl | (with_reducible exact EvAll.nil) | (focus (repeat (first | apply EvAll.cons | exact EvAll.nil | (apply EvC.gv; exact rfl; (with_reducible first | exact Imp.refl _ | (apply Imp.left; exact Imp.refl _) | (apply Imp.right; exact Imp.refl _) | (apply Imp.left; apply Imp.left; exact Imp.refl _))) | (apply EvC.now; exact rfl))); done) | exact ext_blk _ _ _ | (focus (repeat (first | apply List.Mem.head | apply List.Mem.tail | apply List.mem_append_right))))); (simp only [List.set_cons_succ, List.set_cons_zero]; exact rfl); clear hR; intro w hR))
      refine wp_cond_at (nm := false) rfl (by simp [hl0]) (fun h => absurd h (by decide)) (fun _ => ?_)
      go_wp2_with (first
    | ((with_reducible apply q_ls hR); exact rfl; (with_reducible apply t_lenRd Try.underlying23); (apply EvC.now; exact rfl); exact hRd; (simp only [List.set_cons_succ, List.set_cons_zero]; exact rfl); clear hR; intro w hR)
    | ((with_reducible apply q_ls hR); exact rfl; ((with_reducible first | apply t_addr (fRec _ (by decide)) | apply t_addr (fBlk _ (by decide)) | apply t_one tByteR | apply t_one tSlR | apply t_one tIntR | apply t_one tBlks | apply t_part tBlk) <;> (first | (apply EvC.gv; exact rfl; (with_reducible first | exact Imp.refl _ | (apply Imp.left; exact Imp.refl _) | (apply Imp.right; exact Imp.refl _) | (apply Imp.left; apply Imp.left; exact Imp.refl _))) | (apply EvC.now; exact rfl) | exact rfl | (with_reducible exact EvAll.nil) | (focus (repeat (first | apply EvAll.cons | exact EvAll.nil | (apply EvC.gv; exact rfl; (with_reducible first | exact Imp.refl _ | (apply Imp.left; exact Imp.refl _) | (apply Imp.right; exact Imp.refl _) | (apply Imp.left; apply Imp.left; exact Imp.refl _))) | (apply EvC.now; exact rfl))); done) | exact ext_blk _ _ _ | (focus (repeat (first | apply List.Mem.head | apply List.Mem.tail | apply List.mem_append_right))))); (simp only [List.set_cons_succ, List.set_cons_zero]; exact rfl); clear hR; intro w hR))
      go_loopw [3, 18] (fun s i wr => ∃ (k : Nat) (sl : List RowT) (sv : Value), i = .int .i64 k ∧ sv = s ∧ k ≤ l.length ∧ Own w0 wr (sl ++ [(g1, encK u v x, 25)]) ∧ Sl 5 1 sl sv (spreadL (l.take k)).length (cellsB (spreadL (l.take k)))) (fun _ i _ => l.length - (intOf i).toNat)
      case atStart => exact ⟨0, [], _, rfl, rfl, Nat.zero_le _, hR, Sl.nil _ _⟩
      case round =>
        clear hR
        obtain ⟨k, sl, sv, rfl, rfl, hk, hR, hS⟩ := hrel
        go_upto_if 19 with (first
    | ((with_reducible apply q_ls hR); exact rfl; ((with_reducible first | apply t_addr (fRec _ (by decide)) | apply t_addr (fBlk _ (by decide)) | apply t_one tByteR | apply t_one tSlR | apply t_one tIntR | apply t_one tBlks | apply t_part tBlk) <;> (first | (apply EvC.gv; exact rfl; (with_reducible first | exact Imp.refl _ | (apply Imp.left; exact Imp.refl _) | (apply Imp.right; exact Imp.refl _) | (apply Imp.left; apply Imp.left; exact Imp.refl _))) | (apply EvC.now; exact rfl) | exact rfl | (with_reducible exact EvAll.nil) | (focus (repeat (first | apply EvAll.cons | exact EvAll.nil | (apply EvC.gv; exact rfl; (with_reducible first | exact Imp.refl _ | (apply Imp.left; exact Imp.refl _) | (apply Imp.right; exact Imp.refl _) | (apply Imp.left; apply Imp.left; exact Imp.refl _))) | (apply EvC.now; exact rfl))); done) | exact ext_blk _ _ _ | (focus (repeat (first | apply List.Mem.head | apply List.Mem.tail | apply List.mem_append_right))))); (simp only [List.set_cons_succ, List.set_cons_zero]; exact rfl); clear hR; intro w hR))
        by_cases hkl : k < l.length
        · refine wp_cond_at (nm := true) rfl (by simp; omega) (fun _ => ?_) (fun h => absurd h (by decide))
          obtain ⟨z, hz⟩ : ∃ z, l[k]? = some z := ⟨_, List.getElem?_eq_getElem hkl⟩
          obtain ⟨a, ha⟩ : ∃ a, ds[k]? = some a := ⟨_, List.getElem?_eq_getElem (by rw [hlen]; exact hkl)⟩
          have hza := hd k a z ha hz
          have hI3 := hza.isK
          have hel := hx.el cellsK_len ha
          rw [hlen] at hel
          obtain ⟨ad, cap, hxe0, hcell⟩ := hel
          have hxe := Lib.hid hxe0
          clear hxe0
          have HM4 := Lib.hid (show ∀ (w : World) (r : List RowT), Own w0 w r → ∀ jj u, (encK a.t a.v a.x).toList[jj]? = some u → w.cell? ((ad.add ((k : Int).toNat * 3)).add jj) = some u from fun w r hC => by
            rw [Int.toNat_natCast]
            rw [hxe.out] at hx
            exact (hx.own hC).cell cellsK_len ha)
          have hsb := hsub k z hz
          have HC := Lib.hid (fun (w : World) (r : List RowT) (hO : Own w0 w r) => IH.out z (hmz z (List.mem_of_getElem? hz)) (by omega) a w (hza.own hO))
          have HTK := Lib.hid (show cellsB (spreadL (l.take k)) ++ cellsB (spreadB z) = cellsB (spreadL (l.take (k + 1))) by rw [spreadL_more hz, cellsB_append])
          have HTL := Lib.hid (show (spreadL (l.take k)).length + (spreadB z).length = (spreadL (l.take (k + 1))).length by rw [spreadL_more hz, List.length_append])
          clear hcell ha hz
          go_wp2_with (first
    | ((with_reducible apply q_ls hR); exact rfl; (with_reducible apply t_six Try.underlying23 iBlk); (apply EvC.now; exact congrArg some hxe.out); (apply EvC.now; exact rfl); (constructor <;> omega); (simp only [List.set_cons_succ, List.set_cons_zero]; exact rfl); clear hR; intro w hR)
    | ((with_reducible apply q_ls hR); exact rfl; (with_reducible apply t_manyW tBlk); (apply EvC.now; exact rfl); (exact fun w hC => HM4.out w _ hC); exact rfl; (simp only [List.set_cons_succ, List.set_cons_zero]; exact rfl); clear hR; intro w hR)
    | ((with_reducible apply wpList_make hR zBlk); exact rfl; clear hR; intro g4 w hR; simp only [List.set_cons_succ, List.set_cons_zero])
    | ((with_reducible apply wpList_put hR tBlk); exact rfl; exact rfl; exact rfl; (focus (repeat (first | apply List.Mem.head | apply List.Mem.tail | apply List.mem_append_right))); exact put_blk _ rfl _ _ _; exact rfl; simp [encK]; exact one_blk _ hI3.1 hI3.2; (focus (repeat (first | apply Upd.head | apply Upd.tail))); clear hR; intro w hR)
    | (go_at_call 18; refine (HC.out _ _ hR).mono ?_; rintro e w' ⟨s3, v3, rfl, hO, hS3⟩; replace hR := hR.join hO; clear hO)
    | ((with_reducible apply wpList_appG hR tBytesB); exact rfl; exact rfl; exact rfl; exact hS; exact (Les.skip _ (Les.tail Les.head)); exact hS3.rd hR (fun r hr => List.mem_append_left _ hr) (cellsB_ones _); (simp only [maxLen]; omega); omega; clear hR hS hS3; intro s2 v2 w hR hS; simp only [List.set_cons_succ, List.set_cons_zero])
    | ((with_reducible apply q_ls hR); exact rfl; ((with_reducible first | apply t_addr (fRec _ (by decide)) | apply t_addr (fBlk _ (by decide)) | apply t_one tByteR | apply t_one tSlR | apply t_one tIntR | apply t_one tBlks | apply t_part tBlk) <;> (first | (apply EvC.gv; exact rfl; (with_reducible first | exact Imp.refl _ | (apply Imp.left; exact Imp.refl _) | (apply Imp.right; exact Imp.refl _) | (apply Imp.left; apply Imp.left; exact Imp.refl _))) | (apply EvC.now; exact rfl) | exact rfl | (with_reducible exact EvAll.nil) | (focus (repeat (first | apply EvAll.cons | exact EvAll.nil | (apply EvC.gv; exact rfl; (with_reducible first | exact Imp.refl _ | (apply Imp.left; exact Imp.refl _) | (apply Imp.right; exact Imp.refl _) | (apply Imp.left; apply Imp.left; exact Imp.refl _))) | (apply EvC.now; exact rfl))); done) | exact ext_blk _ _ _ | (focus (repeat (first | apply List.Mem.head | apply List.Mem.tail | apply List.mem_append_right))))); (simp only [List.set_cons_succ, List.set_cons_zero]; exact rfl); clear hR; intro w hR))
          rw [HTK.out, HTL.out] at hS
          go_round
          case rel => exact ⟨k + 1, s2, _, rfl, rfl, by omega, hR.drop (List.Sublist.append (List.Sublist.refl _) (List.Sublist.trans (List.Sublist.cons _ (List.Sublist.refl _)) (List.sublist_append_right _ _))), hS⟩
          case measure => simp [intOf]; omega
        · refine wp_cond_at (nm := false) rfl (by simp; omega) (fun h => absurd h (by decide)) (fun _ => ?_)
          obtain rfl : k = l.length := by omega
          rw [List.take_length] at hS
          have hSW : ∀ (w : World) (r : List RowT), Own w0 w r → (∀ y ∈ sl, y ∈ r) → SrcW w sv (spreadL l) := fun w r hO hs => hS.src hO hs hLok
          go_wp2_with (first
    | (go_at_call 33; refine (HREP.out _ _ (hSW _ _ hR (fun r hr => List.mem_append_left _ hr))).mono ?_; rintro e w' ⟨g, rfl, hO⟩; replace hR := hR.join hO; clear hO)
    | ((with_reducible apply q_ls hR); exact rfl; ((with_reducible first | apply t_addr (fRec _ (by decide)) | apply t_addr (fBlk _ (by decide)) | apply t_one tByteR | apply t_one tSlR | apply t_one tIntR | apply t_one tBlks | apply t_part tBlk) <;> (first | (apply EvC.gv; exact rfl; (with_reducible first | exact Imp.refl _ | (apply Imp.left; exact Imp.refl _) | (apply Imp.right; exact Imp.refl _) | (apply Imp.left; apply Imp.left; exact Imp.refl _))) | (apply EvC.now; exact rfl) | exact rfl | (with_reducible exact EvAll.nil) | (focus (repeat (first | apply EvAll.cons | exact EvAll.nil | (apply EvC.gv; exact rfl; (with_reducible first | exact Imp.refl _ | (apply Imp.left; exact Imp.refl _) | (apply Imp.right; exact Imp.refl _) | (apply Imp.left; apply Imp.left; exact Imp.refl _))) | (apply EvC.now; exact rfl))); done) | exact ext_blk _ _ _ | (focus (repeat (first | apply List.Mem.head | apply List.Mem.tail | apply List.mem_append_right))))); (simp only [List.set_cons_succ, List.set_cons_zero]; exact rfl); clear hR; intro w hR))
          go_ret
          refine ⟨_, _, rfl, hR.drop (List.sublist_append_left _ _), ?_⟩
          exact (RwIs.all (k := 1) (n := S.length) (c := (cellsB S).toArray) (by simp [cellsB_len]) (by omega)).sl
end Go.Proofs.Ytalgadinoaeihaa
