









/- The contracts of package iter: a block's own bytes, behind others; a record of blocks. No statement of the seat is proved here. -/
import Derived.Test.YtalgadinoaeihaaItrB
import Derived.Test.YtalgadinoaeihaaCatR
namespace Go.Proofs.Ytalgadinoaeihaa
open Go.ChangeShapes Go.WideShapes Go.ChangeAt Go.RowKit
set_option linter.unusedVariables false
set_option linter.unusedSimpArgs false

section
variable {P : Program} {C : World → Prop} {tp : TypeId} {pos : String} {af : Array Edge} {gd : Option (Nat × Bool)} {ls : List Value} {ds : List Deferred} {c : Bool} {dd : Option Tmp}
theorem firstV_all {w : World} {k m : Nat} {v : Value} {ys : List Value} (hA : Rd w k v m ys) : firstV v m = v := by
  rcases hA.way with ⟨rfl, rfl, _⟩ | ⟨a, cap, rfl, _⟩ <;> rfl
/-- A slice's first places, which are all. -/
theorem t_allRd {t e : TypeId} {k m : Nat} {v : Value} {ys : List Value} {w : World} {x y : Operand} {q : IntKind} {i : Int} (hu : P.underlying t = some (.slice e)) (hz : (P.info? e).map (·.size) = some k) (hx : EvC ls c x v) (hy : EvC ls c y (.int q i)) (hA : Rd w k v m ys) (hi : i = m) :
    TIf P C c ⟨dd, .slice t x none (some y) none, tp, pos, af, gd⟩ ⟨ls.toArray, ds⟩ v := by
  have := t_firstRd (P := P) (C := C) (tp := tp) (pos := pos) (af := af) (gd := gd) (ds := ds) (dd := dd) hu hz hx hy hA hi (Nat.le_refl _)
  rwa [firstV_all hA] at this
end
theorem Sl.castN {e : TypeId} {k n m : Nat} {s : List RowT} {v : Value} {xs ys : List Value} (h : Sl e k s v n xs) (hn : n = m) (hx : xs = ys) : Sl e k s v m ys := hn ▸ hx ▸ h
theorem putL_le {l : List BlkZ} (k : Nat) : (putL (l.take k)).length ≤ (putL l).length := by
  have h := putL_append (l.take k) (l.drop k)
  rw [List.take_append_drop] at h
  rw [h, List.length_append]
  omega
theorem putL_sub {l : List BlkZ} {k : Nat} {z : BlkZ} (h : l[k]? = some z) : (putL (l.take k)).length + (putB z).length ≤ (putL l).length := by
  have h1 := congrArg List.length (putL_more h)
  rw [List.length_append] at h1
  have h2 := putL_le (l := l) (k + 1)
  omega
set_option maxHeartbeats 1000000 in
set_option maxRecDepth 100000 in
theorem iput_any : ∀ (n : Nat) (z : BlkZ), fitK n z → ∀ (L : Nat), n ≤ L → L ≤ 65536 → ∀ (d : BlkV) (w0 : World), BlkAt w0 d z → ∀ (w : World) (l l' s : List RowT) (v : Value) (xs : List Int), Own w0 w l → Les s l l' → Sl 5 1 s v xs.length (cellsB xs) → xs.length + (putB z).length ≤ 100000 →
    Calls Try.prog 21 #[v, .agg (encK d.t d.v d.x), .int .i64 (L : Int)] w fun e w' => ∃ s' v', e = .returned v' ∧ Own w0 w' (s' ++ l') ∧ Sl 5 1 s' v' (xs.length + (putB z).length) (cellsB (xs ++ putB z)) := by
  intro n
  induction n with
  | zero => intro z h; exact h.elim
  | succ n IH0 =>
    intro z hfit L hnL hL d w0 hB w lo l' s v0 xs hO hLes hS hlen100
    obtain @⟨t, v, x, bs, ds, l, ht, hv, hm, hx, hlen, hd⟩ := hB
    obtain ⟨htf, hbf, hlf, hlb, hlz⟩ := hfit
    have IH := Lib.hid IH0
    clear IH0
    have hRd : Rd w0 3 x l.length (ds.flatMap cellsK) := by rw [← hlen]; exact hx
    obtain ⟨m, rfl⟩ : ∃ m : Nat, t = m := Int.eq_ofNat_of_zero_le htf.1
    have hm65 : m ≤ 65535 := by omega
    obtain ⟨T, hT⟩ : ∃ T, bytesN m 2 = T := ⟨_, rfl⟩
    have hTl : T.length = 2 := by rw [← hT]; exact bytesN_len _ _
    have HT := Lib.hid (fun w => twoX_any m w hm65)
    rw [hT] at HT
    obtain ⟨C, hC⟩ : ∃ C, bytesN l.length 2 = C := ⟨_, rfl⟩
    have hCl : C.length = 2 := by rw [← hC]; exact bytesN_len _ _
    have HC := Lib.hid (fun w => twoX_any l.length w hlf)
    rw [hC] at HC
    have HWT := Lib.hid (fun w => iword_any m hm65 w)
    have HWC := Lib.hid (fun w => iword_any l.length hlf w)
    have HMIN := Lib.hid (show (if (65535 : Int) < (l.length : Int) then (65535 : Int) else (l.length : Int)) = (l.length : Int) from if_neg (by omega))
    have HSUB := Lib.hid (show IntKind.i64.wrap ((L : Int) - 1) = ((L - 1 : Nat) : Int) by rw [IntWalk.i64_in _ (by omega)]; omega)
    have hPB : putB (.mk (m : Int) bs l) = if l.length = 0 then (T ++ C) ++ nam18 bs else (T ++ C) ++ putL l := by
      clear HWC HMIN HSUB HC hd hRd hlen hlz hlb
      cases l with
      | nil => rw [putB_leaf, Int.toNat_natCast, hT, ← hC]; rfl
      | cons z l => rw [putB_node _ _ (List.cons_ne_nil z l), Int.toNat_natCast, hT, hC]; rfl
    rw [hPB] at hlen100 ⊢
    obtain ⟨W, hWe⟩ : ∃ W, (if l.length = 0 then (T ++ C) ++ nam18 bs else (T ++ C) ++ putL l) = W := ⟨_, rfl⟩
    rw [hWe] at hlen100 ⊢
    have HW := Lib.hid hWe
    clear hT hC hPB hWe
    have hR := hO.les hLes
    clear hO hLes
    dsimp only
    go_enter Try.func21, Try.ntmps21
    go_upto_if 11 with (first
    | ((with_reducible apply wpList_box hR); exact rfl; exact rfl; clear hR; intro g1 w hR; simp only [List.set_cons_succ, List.set_cons_zero])
    | ((with_reducible apply q_ls hR); exact rfl; ((with_reducible first | apply t_addr (fRec _ (by decide)) | apply t_addr (fBlk _ (by decide)) | apply t_one tByteR | apply t_one tSlR | apply t_one tIntR | apply t_one tBlks | apply t_part tBlk) <;> (first | (apply EvC.gv; exact rfl; (with_reducible first | exact Imp.refl _ | (apply Imp.left; exact Imp.refl _) | (apply Imp.right; exact Imp.refl _) | (apply Imp.left; apply Imp.left; exact Imp.refl _))) | (apply EvC.now; exact rfl) | exact rfl | (with_reducible exact EvAll.nil) | (focus (repeat (first | apply EvAll.cons | exact EvAll.nil | (apply EvC.gv; exact rfl; (with_reducible first | exact Imp.refl _ | (apply Imp.left; exact Imp.refl _) | (apply Imp.right; exact Imp.refl _) | (apply Imp.left; apply Imp.left; exact Imp.refl _))) | (apply EvC.now; exact rfl))); done) | exact ext_blk _ _ _ | (focus (repeat (first | apply List.Mem.head | apply List.Mem.tail | apply List.mem_append_right))))); (simp only [List.set_cons_succ, List.set_cons_zero]; exact rfl); clear hR; intro w hR))
    refine wp_cond_at (nm := false) rfl (by simp; omega) (fun h => absurd h (by decide)) (fun _ => ?_)
    replace hR := hR.perm List.perm_middle
    have hxl : xs.length ≤ 100000 := by omega
    go_upto_if 34 with (first
    | ((with_reducible apply q_ls hR); exact rfl; (with_reducible apply t_lenRd Try.underlying23); (apply EvC.now; exact rfl); exact hRd; (simp only [List.set_cons_succ, List.set_cons_zero]; exact rfl); clear hR; intro w hR)
    | ((with_reducible apply q_ls hR); exact rfl; (with_reducible apply t_minK); (apply EvC.now; exact rfl); (apply EvC.now; exact rfl); exact HMIN.out; (simp only [List.set_cons_succ, List.set_cons_zero]; exact rfl); clear hR; intro w hR)
    | ((with_reducible apply q_ls hR); exact rfl; (with_reducible apply t_allRd Try.underlying23 iBlk); (apply EvC.now; exact rfl); (apply EvC.now; exact rfl); exact hRd; exact rfl; (simp only [List.set_cons_succ, List.set_cons_zero]; exact rfl); clear hR; intro w hR)
    | (go_at_call 35; refine (HWT.out _).mono ?_; rintro e w' ⟨rfl, hb⟩; replace hR := hR.grow hb; clear hb)
    | (go_at_call 35; refine (HWC.out _).mono ?_; rintro e w' ⟨rfl, hb⟩; replace hR := hR.grow hb; clear hb)
    | (go_at_call 26; refine (HT.out _).mono ?_; rintro e w' ⟨s3, v3, rfl, hO, hS3⟩; replace hR := hR.join hO; clear hO)
    | (go_at_call 26; refine (HC.out _).mono ?_; rintro e w' ⟨s3, v3, rfl, hO, hS3⟩; replace hR := hR.join hO; clear hO)
    | ((with_reducible apply wpList_appG hR tBytesB); exact rfl; exact rfl; exact rfl; exact hS; exact (Les.skip _ Les.head); exact hS3.rd hR (fun r hr => List.mem_append_left _ hr) (cellsB_ones _); (simp only [maxLen]; omega); omega; clear hR hS hS3; intro s2 v2 w hR hS; (replace hR := hR.drop (List.Sublist.append (List.Sublist.refl _) (List.sublist_append_right _ _))); (rw [← cellsB_append] at hS); simp only [List.set_cons_succ, List.set_cons_zero])
    | ((with_reducible apply q_ls hR); exact rfl; ((with_reducible first | apply t_addr (fRec _ (by decide)) | apply t_addr (fBlk _ (by decide)) | apply t_one tByteR | apply t_one tSlR | apply t_one tIntR | apply t_one tBlks | apply t_part tBlk) <;> (first | (apply EvC.gv; exact rfl; (with_reducible first | exact Imp.refl _ | (apply Imp.left; exact Imp.refl _) | (apply Imp.right; exact Imp.refl _) | (apply Imp.left; apply Imp.left; exact Imp.refl _))) | (apply EvC.now; exact rfl) | exact rfl | (with_reducible exact EvAll.nil) | (focus (repeat (first | apply EvAll.cons | exact EvAll.nil | (apply EvC.gv; exact rfl; (with_reducible first | exact Imp.refl _ | (apply Imp.left; exact Imp.refl _) | (apply Imp.right; exact Imp.refl _) | (apply Imp.left; apply Imp.left; exact Imp.refl _))) | (apply EvC.now; exact rfl))); done) | exact ext_blk _ _ _ | (focus (repeat (first | apply List.Mem.head | apply List.Mem.tail | apply List.mem_append_right))))); (simp only [List.set_cons_succ, List.set_cons_zero]; exact rfl); clear hR; intro w hR))
    by_cases hl0 : l.length = 0
    · refine wp_cond_at (nm := true) rfl (by simp [hl0]) (fun _ => ?_) (fun h => absurd h (by decide))
      have hnl := nam18_len bs
      have hok := hv.ok
      have HE : Hid (W = T ++ C ++ nam18 bs) := Lib.hid (HW.out.symm.trans (if_pos hl0))
      have hlw := hlen100
      rw [HE.out] at hlw
      simp only [List.length_append] at hlw
      go_wp2_with (first
    | ((with_reducible apply q_ls hR); exact rfl; (with_reducible apply t_strW tTextN); (apply EvC.now; exact rfl); (exact fun w hC => hv.own hC); (simp only [List.set_cons_succ, List.set_cons_zero]; exact rfl); clear hR; intro w hR)
    | (go_at_call 36; refine (namX_any bs _ hok (by omega)).mono ?_; rintro e w' ⟨s3, v3, rfl, hO, hS3⟩; replace hR := hR.join hO; clear hO)
    | ((with_reducible apply wpList_appG hR tBytesB); exact rfl; exact rfl; exact rfl; exact hS; exact (Les.skip _ Les.head); exact hS3.rd hR (fun r hr => List.mem_append_left _ hr) (cellsB_ones _); (simp only [maxLen]; omega); omega; clear hR hS hS3; intro s2 v2 w hR hS; (replace hR := hR.drop (List.Sublist.append (List.Sublist.refl _) (List.sublist_append_right _ _))); (rw [← cellsB_append] at hS); simp only [List.set_cons_succ, List.set_cons_zero])
    | ((with_reducible apply q_ls hR); exact rfl; ((with_reducible first | apply t_addr (fRec _ (by decide)) | apply t_addr (fBlk _ (by decide)) | apply t_one tByteR | apply t_one tSlR | apply t_one tIntR | apply t_one tBlks | apply t_part tBlk) <;> (first | (apply EvC.gv; exact rfl; (with_reducible first | exact Imp.refl _ | (apply Imp.left; exact Imp.refl _) | (apply Imp.right; exact Imp.refl _) | (apply Imp.left; apply Imp.left; exact Imp.refl _))) | (apply EvC.now; exact rfl) | exact rfl | (with_reducible exact EvAll.nil) | (focus (repeat (first | apply EvAll.cons | exact EvAll.nil | (apply EvC.gv; exact rfl; (with_reducible first | exact Imp.refl _ | (apply Imp.left; exact Imp.refl _) | (apply Imp.right; exact Imp.refl _) | (apply Imp.left; apply Imp.left; exact Imp.refl _))) | (apply EvC.now; exact rfl))); done) | exact ext_blk _ _ _ | (focus (repeat (first | apply List.Mem.head | apply List.Mem.tail | apply List.mem_append_right))))); (simp only [List.set_cons_succ, List.set_cons_zero]; exact rfl); clear hR; intro w hR))
      go_ret
      rw [HE.out]
      exact ⟨_, _, rfl, hR.drop (List.Sublist.append (List.Sublist.refl _) (List.sublist_cons_self _ _)), hS.castN (by simp only [List.length_append]; omega) (by simp only [List.append_assoc])⟩
    · refine wp_cond_at (nm := false) rfl (by simp [hl0]) (fun h => absurd h (by decide)) (fun _ => ?_)
      have HE : Hid (W = T ++ C ++ putL l) := Lib.hid (HW.out.symm.trans (if_neg hl0))
      have hlw := hlen100
      rw [HE.out] at hlw
      simp only [List.length_append] at hlw
      obtain ⟨X, hX⟩ : ∃ X, xs ++ T ++ C = X := ⟨_, rfl⟩
      have hXl : X.length = xs.length + 4 := by rw [← hX]; simp only [List.length_append]; omega
      have HX : Hid (xs ++ (T ++ C ++ putL l) = X ++ putL l) := Lib.hid (by rw [← hX]; simp only [List.append_assoc])
      rw [hX] at hS
      have hsub : ∀ (k : Nat) (z : BlkZ), l[k]? = some z → (X ++ putL (l.take k)).length + (putB z).length ≤ 100000 := fun k z hz => by
        have := putL_sub hz
        rw [List.length_append]
        omega
      replace hS := hS.castN (m := X.length) (by omega) rfl
      clear hX
      go_wp2_with (first
    | ((with_reducible apply q_ls hR); exact rfl; (with_reducible apply t_lenRd Try.underlying23); (apply EvC.now; exact rfl); exact hRd; (simp only [List.set_cons_succ, List.set_cons_zero]; exact rfl); clear hR; intro w hR)
    | ((with_reducible apply q_ls hR); exact rfl; ((with_reducible first | apply t_addr (fRec _ (by decide)) | apply t_addr (fBlk _ (by decide)) | apply t_one tByteR | apply t_one tSlR | apply t_one tIntR | apply t_one tBlks | apply t_part tBlk) <;> (first | (apply EvC.gv; exact rfl; (with_reducible first | exact Imp.refl _ | (apply Imp.left; exact Imp.refl _) | (apply Imp.right; exact Imp.refl _) | (apply Imp.left; apply Imp.left; exact Imp.refl _))) | (apply EvC.now; exact rfl) | exact rfl | (with_reducible exact EvAll.nil) | (focus (repeat (first | apply EvAll.cons | exact EvAll.nil | (apply EvC.gv; exact rfl; (with_reducible first | exact Imp.refl _ | (apply Imp.left; exact Imp.refl _) | (apply Imp.right; exact Imp.refl _) | (apply Imp.left; apply Imp.left; exact Imp.refl _))) | (apply EvC.now; exact rfl))); done) | exact ext_blk _ _ _ | (focus (repeat (first | apply List.Mem.head | apply List.Mem.tail | apply List.mem_append_right))))); (simp only [List.set_cons_succ, List.set_cons_zero]; exact rfl); clear hR; intro w hR))
      go_loopw [0, 43] (fun u i wr => ∃ (k : Nat) (sl : List RowT) (sv : Value), i = .int .i64 k ∧ sv = u ∧ k ≤ l.length ∧ Own w0 wr (sl ++ ((g1, encK (m : Int) v x, 25) :: l')) ∧ Sl 5 1 sl sv (X ++ putL (l.take k)).length (cellsB (X ++ putL (l.take k)))) (fun _ i _ => l.length - (intOf i).toNat)
      case atStart => exact ⟨0, _, _, rfl, rfl, Nat.zero_le _, hR, hS.castN (by simp [putL]) (by simp [putL])⟩
      case round =>
        clear hR hS
        obtain ⟨k, sl, sv, rfl, rfl, hk, hR, hS⟩ := hrel
        go_upto_if 44 with (first
    | ((with_reducible apply q_ls hR); exact rfl; ((with_reducible first | apply t_addr (fRec _ (by decide)) | apply t_addr (fBlk _ (by decide)) | apply t_one tByteR | apply t_one tSlR | apply t_one tIntR | apply t_one tBlks | apply t_part tBlk) <;> (first | (apply EvC.gv; exact rfl; (with_reducible first | exact Imp.refl _ | (apply Imp.left; exact Imp.refl _) | (apply Imp.right; exact Imp.refl _) | (apply Imp.left; apply Imp.left; exact Imp.refl _))) | (apply EvC.now; exact rfl) | exact rfl | (with_reducible exact EvAll.nil) | (focus (repeat (first | apply EvAll.cons | exact EvAll.nil | (apply EvC.gv; exact rfl; (with_reducible first | exact Imp.refl _ | (apply Imp.left; exact Imp.refl _) | (apply Imp.right; exact Imp.refl _) | (apply Imp.left; apply Imp.left; exact Imp.refl _))) | (apply EvC.now; exact rfl))); done) | exact ext_blk _ _ _ | (focus (repeat (first | apply List.Mem.head | apply List.Mem.tail | apply List.mem_append_right))))); (simp only [List.set_cons_succ, List.set_cons_zero]; exact rfl); clear hR; intro w hR))
        by_cases hkl : k < l.length
        · refine wp_cond_at (nm := true) rfl (by simp; omega) (fun _ => ?_) (fun h => absurd h (by decide))
          obtain ⟨z, hz⟩ : ∃ z, l[k]? = some z := ⟨_, List.getElem?_eq_getElem hkl⟩
          obtain ⟨a, ha⟩ : ∃ a, ds[k]? = some a := ⟨_, List.getElem?_eq_getElem (by rw [hlen]; exact hkl)⟩
          have hza := hd k a z ha hz
          have hI3 := hza.isK
          have hel := hx.el cellsK_len ha
          rw [hlen] at hel
          obtain ⟨ad, cap, hxe0, hcell⟩ := hel
          have hxe := Lib.hid hxe0
          clear hxe0
          have HM4 := Lib.hid (show ∀ (w : World) (r : List RowT), Own w0 w r → ∀ jj u, (encK a.t a.v a.x).toList[jj]? = some u → w.cell? ((ad.add ((k : Int).toNat * 3)).add jj) = some u from fun w r hC => by
            rw [Int.toNat_natCast]
            rw [hxe.out] at hx
            exact (hx.own hC).cell cellsK_len ha)
          have hsb := hsub k z hz
          have HCA := Lib.hid (fun (w : World) (r r' : List RowT) (hO : Own w0 w r) (hl : Les sl r r') => IH.out z (hlz z (List.mem_of_getElem? hz)) (L - 1) (by omega) (by omega) a w0 hza w r r' sl sv (X ++ putL (l.take k)) hO hl hS hsb)
          have HTK := Lib.hid (show (X ++ putL (l.take k)) ++ putB z = X ++ putL (l.take (k + 1)) by rw [putL_more hz, List.append_assoc])
          clear hcell ha hz hS
          go_wp2_with (first
    | ((with_reducible apply q_ls hR); exact rfl; (with_reducible apply t_six Try.underlying23 iBlk); (apply EvC.now; exact congrArg some hxe.out); (apply EvC.now; exact rfl); (constructor <;> omega); (simp only [List.set_cons_succ, List.set_cons_zero]; exact rfl); clear hR; intro w hR)
    | ((with_reducible apply q_ls hR); exact rfl; (with_reducible apply t_manyW tBlk); (apply EvC.now; exact rfl); (exact fun w hC => HM4.out w _ hC); exact rfl; (simp only [List.set_cons_succ, List.set_cons_zero]; exact rfl); clear hR; intro w hR)
    | ((with_reducible apply wpList_make hR zBlk); exact rfl; clear hR; intro g4 w hR; simp only [List.set_cons_succ, List.set_cons_zero])
    | ((with_reducible apply wpList_put hR tBlk); exact rfl; exact rfl; exact rfl; (focus (repeat (first | apply List.Mem.head | apply List.Mem.tail | apply List.mem_append_right))); exact put_blk _ rfl _ _ _; exact rfl; simp [encK]; exact one_blk _ hI3.1 hI3.2; (focus (repeat (first | apply Upd.head | apply Upd.tail))); clear hR; intro w hR)
    | ((with_reducible apply q_ls hR); exact rfl; (with_reducible apply t_numE); (apply EvC.now; exact rfl); (apply EvC.now; exact rfl); exact rfl; exact HSUB.out; (simp only [List.set_cons_succ, List.set_cons_zero]; exact rfl); clear hR; intro w hR)
    | (go_at_call 21; refine (HCA.out _ _ _ hR (Les.tail Les.head)).mono ?_; rintro e w' ⟨s2, v2, rfl, hO, hS⟩; clear hR; have hR := hO; clear hO)
    | ((with_reducible apply q_ls hR); exact rfl; ((with_reducible first | apply t_addr (fRec _ (by decide)) | apply t_addr (fBlk _ (by decide)) | apply t_one tByteR | apply t_one tSlR | apply t_one tIntR | apply t_one tBlks | apply t_part tBlk) <;> (first | (apply EvC.gv; exact rfl; (with_reducible first | exact Imp.refl _ | (apply Imp.left; exact Imp.refl _) | (apply Imp.right; exact Imp.refl _) | (apply Imp.left; apply Imp.left; exact Imp.refl _))) | (apply EvC.now; exact rfl) | exact rfl | (with_reducible exact EvAll.nil) | (focus (repeat (first | apply EvAll.cons | exact EvAll.nil | (apply EvC.gv; exact rfl; (with_reducible first | exact Imp.refl _ | (apply Imp.left; exact Imp.refl _) | (apply Imp.right; exact Imp.refl _) | (apply Imp.left; apply Imp.left; exact Imp.refl _))) | (apply EvC.now; exact rfl))); done) | exact ext_blk _ _ _ | (focus (repeat (first | apply List.Mem.head | apply List.Mem.tail | apply List.mem_append_right))))); (simp only [List.set_cons_succ, List.set_cons_zero]; exact rfl); clear hR; intro w hR))
          rw [← List.length_append, HTK.out] at hS
          go_round
          case rel => exact ⟨k + 1, s2, _, rfl, rfl, by omega, hR.drop (List.Sublist.append (List.Sublist.refl _) (List.sublist_cons_self _ _)), hS⟩
          case measure => simp [intOf]; omega
        · refine wp_cond_at (nm := false) rfl (by simp; omega) (fun h => absurd h (by decide)) (fun _ => ?_)
          obtain rfl : k = l.length := by omega
          rw [List.take_length] at hS
          go_wp2_with fail
          go_ret
          rw [HE.out]
          exact ⟨_, _, rfl, hR.drop (List.Sublist.append (List.Sublist.refl _) (List.sublist_cons_self _ _)), hS.castN (by simp only [List.length_append]; omega) (by rw [HX.out])⟩
theorem put_okL : ∀ {l : List BlkZ}, (∀ z ∈ l, bytesOk (putB z)) → bytesOk (putL l) := fun h => putL_ok h
theorem BlkAt.put_ok {w : World} {d : BlkV} {z : BlkZ} (h : BlkAt w d z) : bytesOk (putB z) := by
  induction h with
  | mk ht hv hm hx hn hd ih =>
    rename_i ds l
    cases l with
    | nil =>
      rw [putB_leaf]
      exact ((bytesN_ok _ _).append (bytesN_ok _ _)).append (nam18_ok hv.ok)
    | cons z l =>
      rw [putB_node _ _ (List.cons_ne_nil z l)]
      refine ((bytesN_ok _ _).append (bytesN_ok _ _)).append (putL_ok fun y hy => ?_)
      obtain ⟨i, hi, rfl⟩ := List.mem_iff_getElem.1 hy
      exact ih i _ _ (List.getElem?_eq_getElem (by omega)) (List.getElem?_eq_getElem hi)
theorem BlksAt.put_ok {w : World} {v : Value} {ds : List BlkV} {l : List BlkZ} (h : BlksAt w v ds l) : bytesOk (putL l) := putL_ok fun y hy => by
  obtain ⟨i, hi, rfl⟩ := List.mem_iff_getElem.1 hy
  exact (h.2.2 i _ _ (List.getElem?_eq_getElem (by have := h.2.1; omega)) (List.getElem?_eq_getElem hi)).put_ok
theorem putL_many : ∀ (l : List BlkZ), l.length ≤ (putL l).length
  | [] => by simp
  | z :: l => by
    have h1 := putB_len4 z
    have h2 := putL_many l
    simp only [putL, List.length_append, List.length_cons]
    omega
theorem itrPut_any {w : World} {d : BlkV} {z : BlkZ} (h : BlkAt w d z) (hf : fitK 17 z) (hl : (putB z).length ≤ 100000) :
    Calls Try.prog 12 #[.agg (encK d.t d.v d.x)] w fun e w' => RetB w w' (fun v => v) e (putB z) := by
  obtain ⟨hiv, hix⟩ := h.isK
  have hok := h.put_ok
  obtain ⟨t, v, x⟩ := d
  have hR := Own.start w
  have HC := Lib.hid (fun (w1 : World) (r r' : List RowT) (hO : Own w w1 r) (hL : Les [] r r') => iput_any 17 z hf 65536 (by decide) (by decide) ⟨t, v, x⟩ w h w1 r r' [] _ [] hO hL (Sl.nil _ _) (by simpa using hl))
  dsimp only at HC ⊢
  go_enter Try.func12, Try.ntmps12
  go_wp2_with (first
    | ((with_reducible apply wpList_box hR); exact rfl; exact rfl; clear hR; intro g1 w hR; simp only [List.set_cons_succ, List.set_cons_zero])
    | (go_at_call 21; refine (HC.out _ _ _ hR (Les.head (s := []))).mono ?_; rintro e w' ⟨s2, v2, rfl, hO, hS⟩; clear hR; have hR := hO; clear hO)
    | ((with_reducible apply q_ls hR); exact rfl; ((with_reducible first | apply t_addr (fRec _ (by decide)) | apply t_addr (fBlk _ (by decide)) | apply t_one tByteR | apply t_one tSlR | apply t_one tIntR | apply t_one tBlks | apply t_part tBlk) <;> (first | (apply EvC.gv; exact rfl; (with_reducible first | exact Imp.refl _ | (apply Imp.left; exact Imp.refl _) | (apply Imp.right; exact Imp.refl _) | (apply Imp.left; apply Imp.left; exact Imp.refl _))) | (apply EvC.now; exact rfl) | exact rfl | (with_reducible exact EvAll.nil) | (focus (repeat (first | apply EvAll.cons | exact EvAll.nil | (apply EvC.gv; exact rfl; (with_reducible first | exact Imp.refl _ | (apply Imp.left; exact Imp.refl _) | (apply Imp.right; exact Imp.refl _) | (apply Imp.left; apply Imp.left; exact Imp.refl _))) | (apply EvC.now; exact rfl))); done) | exact ext_blk _ _ _ | (focus (repeat (first | apply List.Mem.head | apply List.Mem.tail | apply List.mem_append_right))))); (simp only [List.set_cons_succ, List.set_cons_zero]; exact rfl); clear hR; intro w hR))
  go_ret
  exact ⟨_, _, rfl, hR.drop (List.sublist_append_left _ _), (hS.castN rfl (by rw [List.nil_append])).srcR hok⟩
set_option maxHeartbeats 1000000 in
set_option maxRecDepth 100000 in
theorem itrRecord_any {w0 : World} {s : Int} {o : Nat} {x : Value} {ds : List BlkV} {l : List BlkZ} (hs : 1 ≤ s ∧ s ≤ 32767) (ho : o ≤ 65535) (h : BlksAt w0 x ds l) (hf : ∀ z ∈ l, fitK 17 z) (hl : (putL l).length ≤ 10000) :
    Calls Try.prog 14 #[.int .i64 s, .int .u16 (o : Int), x] w0 fun e w' => RetB w0 w' (fun v => .agg #[.int .u8 162, v]) e (recI s o l) := by
  have hok := h.put_ok
  have hmany := putL_many l
  obtain ⟨hx, hlen, hd⟩ := h
  have hRd : Rd w0 3 x l.length (ds.flatMap cellsK) := by rw [← hlen]; exact hx
  have HPS := Lib.hid (fun w => putX_any s w (by omega) (by omega))
  have HTO := Lib.hid (fun w => twoX_any o w ho)
  have hls := (idxN_len s).2
  have hos := idxN_ok s
  have hl2 := bytesN_len o 2
  have ho2 := bytesN_ok o 2
  obtain ⟨X, hX⟩ : ∃ X, idxN s ++ bytesN o 2 = X := ⟨_, rfl⟩
  have hXl : X.length ≤ 10 := by rw [← hX, List.length_append]; omega
  have HX := Lib.hid (show recI s o l = X ++ putL l by rw [← hX]; unfold recI; simp only [List.append_assoc])
  have HXo := Lib.hid (show bytesOk (X ++ putL l) by rw [← hX]; exact (hos.append ho2).append hok)
  have HXX := Lib.hid hX
  have hsub : ∀ (k : Nat) (z : BlkZ), l[k]? = some z → (X ++ putL (l.take k)).length + (putB z).length ≤ 100000 := fun k z hz => by
    have := putL_sub hz
    rw [List.length_append]
    omega
  rw [HX.out]
  clear hX
  have hR := Own.start w0
  go_enter Try.func14, Try.ntmps14
  go_upto_region 2 with (first
    | ((with_reducible apply wpList_make hR zRec); exact rfl; clear hR; intro g w hR; simp only [List.set_cons_succ, List.set_cons_zero])
    | (go_at_call 25; refine (HPS.out _).mono ?_; rintro e w' ⟨s1, v1, rfl, hO, hS1⟩; replace hR := hR.join hO; clear hO; (obtain ⟨a1, n1, c1, rfl⟩ := hS1.shapeIdx))
    | (go_at_call 26; refine (HTO.out _).mono ?_; rintro e w' ⟨s2, v2, rfl, hO, hS2⟩; replace hR := hR.join hO; clear hO; (obtain ⟨a2, n2, c2, rfl⟩ := hS2.shapeIdx))
    | ((with_reducible apply wpList_buildS hR); exact rfl; exact rfl; (exact bCat2); clear hR; intro gb w hR; simp only [List.set_cons_succ, List.set_cons_zero])
    | (go_at_call 24; refine (cat2_row hR (.head _) (hS1.src hR (fun r hr => by simp [hr]) hos) (hS2.src hR (fun r hr => by simp [hr]) ho2) (by omega) (by omega)).mono ?_; rintro e w' ⟨s3, v3, rfl, hO, hS⟩; replace hR := hR.join hO; clear hO)
    | ((with_reducible apply q_ls hR); exact rfl; ((with_reducible first | apply t_addr (fRec _ (by decide)) | apply t_addr (fBlk _ (by decide)) | apply t_one tByteR | apply t_one tSlR | apply t_one tIntR | apply t_one tBlks | apply t_part tBlk) <;> (first | (apply EvC.gv; exact rfl; (with_reducible first | exact Imp.refl _ | (apply Imp.left; exact Imp.refl _) | (apply Imp.right; exact Imp.refl _) | (apply Imp.left; apply Imp.left; exact Imp.refl _))) | (apply EvC.now; exact rfl) | exact rfl | (with_reducible exact EvAll.nil) | (focus (repeat (first | apply EvAll.cons | exact EvAll.nil | (apply EvC.gv; exact rfl; (with_reducible first | exact Imp.refl _ | (apply Imp.left; exact Imp.refl _) | (apply Imp.right; exact Imp.refl _) | (apply Imp.left; apply Imp.left; exact Imp.refl _))) | (apply EvC.now; exact rfl))); done) | exact ext_blk _ _ _ | (focus (repeat (first | apply List.Mem.head | apply List.Mem.tail | apply List.mem_append_right))))); (simp only [List.set_cons_succ, List.set_cons_zero]; exact rfl); clear hR; intro w hR))
  rw [HXX.out] at hS
  clear hS1 hS2 HPS HTO
  replace hR := hR.drop (l' := s3 ++ [(g, #[.int .u8 0, .slice none 0 0], 37)]) (List.Sublist.append (List.Sublist.refl _) (List.Sublist.cons _ (List.Sublist.trans (List.sublist_append_right _ _) (List.sublist_append_right _ _))))
  go_wp2_with (first
    | ((with_reducible apply q_ls hR); exact rfl; (with_reducible apply t_lenRd Try.underlying23); (apply EvC.now; exact rfl); exact hRd; (simp only [List.set_cons_succ, List.set_cons_zero]; exact rfl); clear hR; intro w hR))
  go_loopw [7, 18] (fun u i wr => ∃ (k : Nat) (sl : List RowT) (sv : Value), i = .int .i64 k ∧ sv = u ∧ k ≤ l.length ∧ Own w0 wr (sl ++ [(g, #[.int .u8 0, .slice none 0 0], 37)]) ∧ Sl 5 1 sl sv (X ++ putL (l.take k)).length (cellsB (X ++ putL (l.take k)))) (fun _ i _ => l.length - (intOf i).toNat)
  case atStart => exact ⟨0, _, _, rfl, rfl, Nat.zero_le _, hR, hS.castN (by simp [putL]) (by simp [putL])⟩
  case round =>
    clear hR hS
    obtain ⟨k, sl, sv, rfl, rfl, hk, hR, hS⟩ := hrel
    go_upto_if 19 with (first
    | ((with_reducible apply q_ls hR); exact rfl; ((with_reducible first | apply t_addr (fRec _ (by decide)) | apply t_addr (fBlk _ (by decide)) | apply t_one tByteR | apply t_one tSlR | apply t_one tIntR | apply t_one tBlks | apply t_part tBlk) <;> (first | (apply EvC.gv; exact rfl; (with_reducible first | exact Imp.refl _ | (apply Imp.left; exact Imp.refl _) | (apply Imp.right; exact Imp.refl _) | (apply Imp.left; apply Imp.left; exact Imp.refl _))) | (apply EvC.now; exact rfl) | exact rfl | (with_reducible exact EvAll.nil) | (focus (repeat (first | apply EvAll.cons | exact EvAll.nil | (apply EvC.gv; exact rfl; (with_reducible first | exact Imp.refl _ | (apply Imp.left; exact Imp.refl _) | (apply Imp.right; exact Imp.refl _) | (apply Imp.left; apply Imp.left; exact Imp.refl _))) | (apply EvC.now; exact rfl))); done) | exact ext_blk _ _ _ | (focus (repeat (first | apply List.Mem.head | apply List.Mem.tail | apply List.mem_append_right))))); (simp only [List.set_cons_succ, List.set_cons_zero]; exact rfl); clear hR; intro w hR))
    by_cases hkl : k < l.length
    · refine wp_cond_at (nm := true) rfl (by simp; omega) (fun _ => ?_) (fun h => absurd h (by decide))
      obtain ⟨z, hz⟩ : ∃ z, l[k]? = some z := ⟨_, List.getElem?_eq_getElem hkl⟩
      obtain ⟨a, ha⟩ : ∃ a, ds[k]? = some a := ⟨_, List.getElem?_eq_getElem (by rw [hlen]; exact hkl)⟩
      have hza := hd k a z ha hz
      have hI3 := hza.isK
      have hel := hx.el cellsK_len ha
      rw [hlen] at hel
      obtain ⟨ad, cap, hxe0, hcell⟩ := hel
      have hxe := Lib.hid hxe0
      clear hxe0
      have HM4 := Lib.hid (show ∀ (w : World) (r : List RowT), Own w0 w r → ∀ jj u, (encK a.t a.v a.x).toList[jj]? = some u → w.cell? ((ad.add ((k : Int).toNat * 3)).add jj) = some u from fun w r hC => by
        rw [Int.toNat_natCast]
        rw [hxe.out] at hx
        exact (hx.own hC).cell cellsK_len ha)
      have hsb := hsub k z hz
      have HCA := Lib.hid (fun (w : World) (r r' : List RowT) (hO : Own w0 w r) (hl : Les sl r r') => iput_any 17 z (hf z (List.mem_of_getElem? hz)) 65536 (by omega) (by omega) a w0 hza w r r' sl sv (X ++ putL (l.take k)) hO hl hS hsb)
      have HTK := Lib.hid (show (X ++ putL (l.take k)) ++ putB z = X ++ putL (l.take (k + 1)) by rw [putL_more hz, List.append_assoc])
      clear hcell ha hz hS
      go_wp2_with (first
    | ((with_reducible apply q_ls hR); exact rfl; (with_reducible apply t_six Try.underlying23 iBlk); (apply EvC.now; exact congrArg some hxe.out); (apply EvC.now; exact rfl); (constructor <;> omega); (simp only [List.set_cons_succ, List.set_cons_zero]; exact rfl); clear hR; intro w hR)
    | ((with_reducible apply q_ls hR); exact rfl; (with_reducible apply t_manyW tBlk); (apply EvC.now; exact rfl); (exact fun w hC => HM4.out w _ hC); exact rfl; (simp only [List.set_cons_succ, List.set_cons_zero]; exact rfl); clear hR; intro w hR)
    | ((with_reducible apply wpList_make hR zBlk); exact rfl; clear hR; intro g4 w hR; simp only [List.set_cons_succ, List.set_cons_zero])
    | ((with_reducible apply wpList_put hR tBlk); exact rfl; exact rfl; exact rfl; (focus (repeat (first | apply List.Mem.head | apply List.Mem.tail | apply List.mem_append_right))); exact put_blk _ rfl _ _ _; exact rfl; simp [encK]; exact one_blk _ hI3.1 hI3.2; (focus (repeat (first | apply Upd.head | apply Upd.tail))); clear hR; intro w hR)
    | (go_at_call 21; refine (HCA.out _ _ _ hR (Les.tail Les.head)).mono ?_; rintro e w' ⟨s2, v2, rfl, hO, hS⟩; clear hR; have hR := hO; clear hO)
    | ((with_reducible apply q_ls hR); exact rfl; ((with_reducible first | apply t_addr (fRec _ (by decide)) | apply t_addr (fBlk _ (by decide)) | apply t_one tByteR | apply t_one tSlR | apply t_one tIntR | apply t_one tBlks | apply t_part tBlk) <;> (first | (apply EvC.gv; exact rfl; (with_reducible first | exact Imp.refl _ | (apply Imp.left; exact Imp.refl _) | (apply Imp.right; exact Imp.refl _) | (apply Imp.left; apply Imp.left; exact Imp.refl _))) | (apply EvC.now; exact rfl) | exact rfl | (with_reducible exact EvAll.nil) | (focus (repeat (first | apply EvAll.cons | exact EvAll.nil | (apply EvC.gv; exact rfl; (with_reducible first | exact Imp.refl _ | (apply Imp.left; exact Imp.refl _) | (apply Imp.right; exact Imp.refl _) | (apply Imp.left; apply Imp.left; exact Imp.refl _))) | (apply EvC.now; exact rfl))); done) | exact ext_blk _ _ _ | (focus (repeat (first | apply List.Mem.head | apply List.Mem.tail | apply List.mem_append_right))))); (simp only [List.set_cons_succ, List.set_cons_zero]; exact rfl); clear hR; intro w hR))
      rw [← List.length_append, HTK.out] at hS
      go_round
      case rel => exact ⟨k + 1, s2, _, rfl, rfl, by omega, hR.drop (List.Sublist.append (List.Sublist.refl _) (List.sublist_cons_self _ _)), hS⟩
      case measure => simp [intOf]; omega
    · refine wp_cond_at (nm := false) rfl (by simp; omega) (fun h => absurd h (by decide)) (fun _ => ?_)
      obtain rfl : k = l.length := by omega
      rw [List.take_length] at hS
      have hSR := hS.srcR HXo.out
      have hB := bRecC 162 hS
      have h1 := one_recC 162 hS
      clear hS
      go_wp2_with (first
    | ((with_reducible apply wpList_built); exact rfl; exact rfl; exact hB; (simp only [List.set_cons_succ, List.set_cons_zero]; exact rfl))
    | ((with_reducible apply wpList_put hR tRec); exact rfl; exact rfl; exact rfl; (exact List.mem_append_right _ (.head _)); exact put_rec _ _ _ _; exact rfl; (simp); exact h1; exact Upd.skipC _ .head; clear hR; intro w hR)
    | ((with_reducible apply q_ls hR); exact rfl; ((with_reducible first | apply t_addr (fRec _ (by decide)) | apply t_addr (fBlk _ (by decide)) | apply t_one tByteR | apply t_one tSlR | apply t_one tIntR | apply t_one tBlks | apply t_part tBlk) <;> (first | (apply EvC.gv; exact rfl; (with_reducible first | exact Imp.refl _ | (apply Imp.left; exact Imp.refl _) | (apply Imp.right; exact Imp.refl _) | (apply Imp.left; apply Imp.left; exact Imp.refl _))) | (apply EvC.now; exact rfl) | exact rfl | (with_reducible exact EvAll.nil) | (focus (repeat (first | apply EvAll.cons | exact EvAll.nil | (apply EvC.gv; exact rfl; (with_reducible first | exact Imp.refl _ | (apply Imp.left; exact Imp.refl _) | (apply Imp.right; exact Imp.refl _) | (apply Imp.left; apply Imp.left; exact Imp.refl _))) | (apply EvC.now; exact rfl))); done) | exact ext_blk _ _ _ | (focus (repeat (first | apply List.Mem.head | apply List.Mem.tail | apply List.mem_append_right))))); (simp only [List.set_cons_succ, List.set_cons_zero]; exact rfl); clear hR; intro w hR))
      exact post_row hR rfl (by rfl) (List.mem_append_right _ (.head _)) Try.underlying37 rfl iRec (by rfl) (by rfl) ⟨_, _, rfl, hR.drop (List.sublist_append_left _ _), hSR⟩
theorem RetB.cast {w w' : World} {F : Value → Value} {e : Ending} {bs bs' : List Int} (h : RetB w w' F e bs) (q : bs = bs') : RetB w w' F e bs' := q ▸ h
set_option maxHeartbeats 1000000 in
theorem itrSpread_any {w0 : World} {d : BlkV} {z : BlkZ} (h : BlkAt w0 d z) (hf : dpB 17 z) (hl : (spreadB z).length ≤ 100000) :
    Calls Try.prog 8 #[.agg (encK d.t d.v d.x)] w0 fun e w' => RetB w0 w' (fun v => .tuple #[v, .bool (okSpread z)]) e (bif okSpread z then spreadB z else []) := by
  obtain ⟨hiv, hix⟩ := h.isK
  have hok := h.spread_ok
  obtain ⟨t, v, x⟩ := d
  have HSZ := Lib.hid (fun (w1 : World) (r : List RowT) (hO : Own w0 w1 r) => itrSizeF_any (h.own hO) hf)
  have HMAY := Lib.hid (fun (w1 : World) (r : List RowT) (hO : Own w0 w1 r) => itrMay_any (h.own hO))
  have hsm := size_spread 8 z
  have hsF := sizeF_le z
  have HSP := Lib.hid (fun (hm : mayB 8 z = true) (w1 : World) (r : List RowT) (hO : Own w0 w1 r) => ispread_any 8 z hm hl _ w1 (h.own hO))
  obtain ⟨f, hfe⟩ : ∃ f, sizeF z = f := ⟨_, rfl⟩
  rw [hfe] at HSZ hsm hsF
  dsimp only at HSZ HMAY HSP ⊢
  have hR := Own.start w0
  obtain ⟨b, hb⟩ : ∃ b, mayB 8 z = b := ⟨_, rfl⟩
  rw [hb] at HMAY
  have hokS : okSpread z = (! (decide (65536 < f) || !b)) := by
    unfold okSpread
    rw [hb]
    cases b with
    | false => simp
    | true =>
      have := hsm hb
      simp only [Bool.true_and, Bool.not_true, Bool.or_false]
      by_cases hle : (spreadB z).length ≤ 65536
      · rw [decide_eq_true hle, decide_eq_false (by omega)]; rfl
      · rw [decide_eq_false hle, decide_eq_true (by omega)]; rfl
  obtain ⟨O, hO⟩ : ∃ O, okSpread z = O := ⟨_, rfl⟩
  rw [hO] at hokS ⊢
  have HO := Lib.hid hokS
  have HB := Lib.hid hb
  clear hO hokS hsm hb hfe
  go_enter Try.func8, Try.ntmps8
  go_upto_region 1 with (first
    | ((with_reducible apply wpList_box hR); exact rfl; exact rfl; clear hR; intro g1 w hR; simp only [List.set_cons_succ, List.set_cons_zero]))
  refine wp_region_tame hR [0, 1, 2, 3, 4, 5, 6, 7] rfl ?_
  repeat (refine wpT_step rfl ?_; first
    | ((first | (with_reducible apply q_pl) | ((with_reducible apply q_gd); (first | (apply GdBy.gt; exact rfl; exact rfl) | (apply GdBy.gf; exact rfl; exact rfl) | (apply GdBy.t; exact rfl; exact rfl) | (apply GdBy.f; exact rfl; exact rfl)))); (with_reducible apply t_call Try.call11); (first | (apply EvC.gv; exact rfl; (with_reducible first | exact Imp.refl _ | (apply Imp.left; exact Imp.refl _) | (apply Imp.right; exact Imp.refl _) | (apply Imp.left; apply Imp.left; exact Imp.refl _))) | (apply EvC.now; exact rfl) | exact rfl | (with_reducible exact EvAll.nil) | (focus (repeat (first | apply EvAll.cons | exact EvAll.nil | (apply EvC.gv; exact rfl; (with_reducible first | exact Imp.refl _ | (apply Imp.left; exact Imp.refl _) | (apply Imp.right; exact Imp.refl _) | (apply Imp.left; apply Imp.left; exact Imp.refl _))) | (apply EvC.now; exact rfl))); done) | exact ext_blk _ _ _ | (focus (repeat (first | apply List.Mem.head | apply List.Mem.tail | apply List.mem_append_right)))); (intro hcc w hC; exact tame_below (HSZ.out _ _ hC) hC); (simp only [List.set_cons_succ, List.set_cons_zero]; exact rfl))
    | ((first | (with_reducible apply q_pl) | ((with_reducible apply q_gd); (first | (apply GdBy.gt; exact rfl; exact rfl) | (apply GdBy.gf; exact rfl; exact rfl) | (apply GdBy.t; exact rfl; exact rfl) | (apply GdBy.f; exact rfl; exact rfl)))); (with_reducible apply t_call Try.call10); (first | (apply EvC.gv; exact rfl; (with_reducible first | exact Imp.refl _ | (apply Imp.left; exact Imp.refl _) | (apply Imp.right; exact Imp.refl _) | (apply Imp.left; apply Imp.left; exact Imp.refl _))) | (apply EvC.now; exact rfl) | exact rfl | (with_reducible exact EvAll.nil) | (focus (repeat (first | apply EvAll.cons | exact EvAll.nil | (apply EvC.gv; exact rfl; (with_reducible first | exact Imp.refl _ | (apply Imp.left; exact Imp.refl _) | (apply Imp.right; exact Imp.refl _) | (apply Imp.left; apply Imp.left; exact Imp.refl _))) | (apply EvC.now; exact rfl))); done) | exact ext_blk _ _ _ | (focus (repeat (first | apply List.Mem.head | apply List.Mem.tail | apply List.mem_append_right)))); (intro hcc w hC; exact tame_below (HMAY.out _ _ hC) hC); (simp only [List.set_cons_succ, List.set_cons_zero]; exact rfl))
    | ((first | (with_reducible apply q_pl) | ((with_reducible apply q_gd); (first | (apply GdBy.gt; exact rfl; exact rfl) | (apply GdBy.gf; exact rfl; exact rfl) | (apply GdBy.t; exact rfl; exact rfl) | (apply GdBy.f; exact rfl; exact rfl)))); (first | ((with_reducible first | apply t_move | apply t_assign | apply t_and | apply t_or | apply t_cmp | apply t_not | apply t_addr (fRec _ (by decide)) | apply t_addr (fBlk _ (by decide)) | apply t_one tByteR | apply t_one tSlR | apply t_one tIntR | apply t_one tBlks | apply t_part tBlk) <;> (first | (apply EvC.gv; exact rfl; (with_reducible first | exact Imp.refl _ | (apply Imp.left; exact Imp.refl _) | (apply Imp.right; exact Imp.refl _) | (apply Imp.left; apply Imp.left; exact Imp.refl _))) | (apply EvC.now; exact rfl) | exact rfl | (with_reducible exact EvAll.nil) | (focus (repeat (first | apply EvAll.cons | exact EvAll.nil | (apply EvC.gv; exact rfl; (with_reducible first | exact Imp.refl _ | (apply Imp.left; exact Imp.refl _) | (apply Imp.right; exact Imp.refl _) | (apply Imp.left; apply Imp.left; exact Imp.refl _))) | (apply EvC.now; exact rfl))); done) | exact ext_blk _ _ _ | (focus (repeat (first | apply List.Mem.head | apply List.Mem.tail | apply List.mem_append_right)))))); (simp only [List.set_cons_succ, List.set_cons_zero]; exact rfl))
    | ((with_reducible apply q_gd); (first | (apply GdBy.gt; exact rfl; exact rfl) | (apply GdBy.gf; exact rfl; exact rfl) | (apply GdBy.t; exact rfl; exact rfl) | (apply GdBy.f; exact rfl; exact rfl)); ((with_reducible apply t_num) <;> (first | (apply EvC.gv; exact rfl; (with_reducible first | exact Imp.refl _ | (apply Imp.left; exact Imp.refl _) | (apply Imp.right; exact Imp.refl _) | (apply Imp.left; apply Imp.left; exact Imp.refl _))) | (apply EvC.now; exact rfl) | exact rfl | (with_reducible exact EvAll.nil) | (focus (repeat (first | apply EvAll.cons | exact EvAll.nil | (apply EvC.gv; exact rfl; (with_reducible first | exact Imp.refl _ | (apply Imp.left; exact Imp.refl _) | (apply Imp.right; exact Imp.refl _) | (apply Imp.left; apply Imp.left; exact Imp.refl _))) | (apply EvC.now; exact rfl))); done) | exact ext_blk _ _ _ | (focus (repeat (first | apply List.Mem.head | apply List.Mem.tail | apply List.mem_append_right))))); (simp only [List.set_cons_succ, List.set_cons_zero]; exact rfl))
    | ((with_reducible apply wpT1_gpure); (first | (apply GdBy.gt; exact rfl; exact rfl) | (apply GdBy.gf; exact rfl; exact rfl) | (apply GdBy.t; exact rfl; exact rfl) | (apply GdBy.f; exact rfl; exact rfl)); intro K hK; go_simp; refine hK _ ?_; clear hK K; simp only [List.set_cons_succ, List.set_cons_zero])
    | ((with_reducible apply wpT1_pure); exact rfl; intro K hK; go_simp; refine hK _ ?_; clear hK K; simp only [List.set_cons_succ, List.set_cons_zero]))
  refine wpT_nil ?_
  clear hR; intro w hR
  go_upto_if 11 with fail
  refine wp_cond_at (nm := decide (65536 < f) || !b) rfl (by trace_state; congr 1; exact decide_eq_decide.2 (by omega)) (fun h => ?_) (fun h => ?_)
  · have HF := Lib.hid (show O = false by rw [HO.out, h]; rfl)
    clear h
    go_wp2_with fail
    go_ret2
    exact ⟨[], _, by rw [HF.out]; rfl, hR.drop (List.nil_sublist _), by rw [HF.out]; exact SrcR.noneI _⟩
  · have HT := Lib.hid (show O = true by rw [HO.out, h]; rfl)
    have hmz : mayB 8 z = true := by
      rw [HB.out]
      simp only [Bool.or_eq_false_iff, Bool.not_eq_false'] at h
      exact h.2
    clear h
    go_wp2_with (first
    | (go_at_call 18; refine (HSP.out hmz _ _ hR).mono ?_; rintro e w' ⟨s3, v3, rfl, hO, hS3⟩; replace hR := hR.join hO; clear hO)
    | ((with_reducible apply q_ls hR); exact rfl; ((with_reducible first | apply t_addr (fRec _ (by decide)) | apply t_addr (fBlk _ (by decide)) | apply t_one tByteR | apply t_one tSlR | apply t_one tIntR | apply t_one tBlks | apply t_part tBlk) <;> (first | (apply EvC.gv; exact rfl; (with_reducible first | exact Imp.refl _ | (apply Imp.left; exact Imp.refl _) | (apply Imp.right; exact Imp.refl _) | (apply Imp.left; apply Imp.left; exact Imp.refl _))) | (apply EvC.now; exact rfl) | exact rfl | (with_reducible exact EvAll.nil) | (focus (repeat (first | apply EvAll.cons | exact EvAll.nil | (apply EvC.gv; exact rfl; (with_reducible first | exact Imp.refl _ | (apply Imp.left; exact Imp.refl _) | (apply Imp.right; exact Imp.refl _) | (apply Imp.left; apply Imp.left; exact Imp.refl _))) | (apply EvC.now; exact rfl))); done) | exact ext_blk _ _ _ | (focus (repeat (first | apply List.Mem.head | apply List.Mem.tail | apply List.mem_append_right))))); (simp only [List.set_cons_succ, List.set_cons_zero]; exact rfl); clear hR; intro w hR))
    go_ret2
    exact ⟨_, _, by rw [HT.out]; rfl, hR.drop (List.sublist_append_left _ _), by rw [HT.out]; exact hS3.srcR hok⟩
end Go.Proofs.Ytalgadinoaeihaa
