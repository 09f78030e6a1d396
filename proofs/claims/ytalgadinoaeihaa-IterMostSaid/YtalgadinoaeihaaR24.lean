








/- The contracts of hansomref24: what a block spreads to, its bytes. No statement of the seat is proved here. -/
import Derived.Test.YtalgadinoaeihaaBlkT
import Derived.Test.YtalgadinoaeihaaStrs
import Derived.Deep.DeepCutAuto
import Derived.Deep.CutBlock
namespace Go.Proofs.Ytalgadinoaeihaa
open Go.ChangeShapes Go.WideShapes Go.ChangeAt Go.RowKit
set_option linter.unusedVariables false
set_option linter.unusedSimpArgs false

theorem litK0 : (⟨#[]⟩ : ByteArray) = strOfNums [] := rfl
theorem rep_more (k : Nat) (a : List Int) : (List.replicate (k + 1) a).flatten = (List.replicate k a).flatten ++ a := by
  rw [List.replicate_succ']; simp
theorem capB_most : ∀ {n : Nat}, n ≤ 4 → capB n ≤ 45240
  | 0, _ => by decide
  | 1, _ => by decide
  | 2, _ => by decide
  | 3, _ => by decide
  | 4, _ => by decide
set_option maxHeartbeats 4000000 in
set_option maxRecDepth 100000 in
theorem r24spread_any : ∀ (n : Nat) (z : BlkZ), n ≤ 4 → smB n z → ∀ (d : BlkV) (w0 : World), BlkAt w0 d z →
    Calls Try.prog 7 #[.agg (encK d.t d.v d.x)] w0 fun e w' => e = .returned (.string (strOfNums (spreadB z))) ∧ Below w0.heap.size w0 w'
  | 0, _, _, h, _, _, _ => h.elim
  | n + 1, z, hn4, hsm, d, w0, hB => by
    obtain @⟨t, v, x, bs, ds, l, ht, hv, hm, hx, hlen, hd⟩ := hB
    have IH := Lib.hid (r24spread_any n)
    have hsm0 := hsm
    obtain ⟨ht4, hbo, hb6, hl3, hlz⟩ := hsm
    have hcap := capB_most (n := n) (by omega)
    have hon := sm_once hsm0 fun z hz => sm_len n z (hlz z hz)
    clear hsm0
    have hRd : Rd w0 3 x l.length (ds.flatMap cellsK) := by rw [← hlen]; exact hx
    have hR := Own.start w0
    dsimp only
    go_enter Try.func7, Try.ntmps7
    go_wp2_with (first
    | ((with_reducible apply wpList_box hR); exact rfl; exact rfl; clear hR; intro g1 w hR; simp only [List.set_cons_succ, List.set_cons_zero])
    | ((with_reducible apply q_ls hR); exact rfl; (with_reducible apply t_strW tTextN); (apply EvC.now; exact rfl); (exact fun w hC => hv.own hC); (simp only [List.set_cons_succ, List.set_cons_zero]; exact rfl); clear hR; intro w hR)
    | ((with_reducible apply q_ls hR); exact rfl; ((with_reducible first | apply t_addr (fRec _ (by decide)) | apply t_addr (fBlk _ (by decide)) | apply t_one tByteR | apply t_one tSlR | apply t_one tIntR | apply t_one tBlks | apply t_part tBlk) <;> (first | (apply EvC.gv; exact rfl; (with_reducible first | exact Imp.refl _ | (apply Imp.left; exact Imp.refl _) | (apply Imp.right; exact Imp.refl _) | (apply Imp.left; apply Imp.left; exact Imp.refl _))) | (apply EvC.now; exact rfl) | exact rfl | (with_reducible exact EvAll.nil) | (focus (repeat (first | apply EvAll.cons | exact EvAll.nil | (apply EvC.gv; exact rfl; (with_reducible first | exact Imp.refl _ | (apply Imp.left; exact Imp.refl _) | (apply Imp.right; exact Imp.refl _) | (apply Imp.left; apply Imp.left; exact Imp.refl _))) | (apply EvC.now; exact rfl))); done) | exact ext_blk _ _ _ | (focus (repeat (first | apply List.Mem.head | apply List.Mem.tail | apply List.mem_append_right))))); (simp only [List.set_cons_succ, List.set_cons_zero]; exact rfl); clear hR; intro w hR))
    go_loopw [3, 5] (fun s i wr => ∃ k : Nat, i = .int .i64 k ∧ k ≤ l.length ∧ s = .string (strOfNums (bs ++ spreadL (l.take k))) ∧ Own w0 wr [(g1, encK t v x, 25)]) (fun _ i _ => l.length - (intOf i).toNat)
    case atStart => exact ⟨0, rfl, Nat.zero_le _, by simp [spreadL], hR⟩
    case round =>
      clear hR
      obtain ⟨k, rfl, hk, rfl, hR⟩ := hrel
      go_upto_if 14 with (first
    | ((with_reducible apply q_ls hR); exact rfl; (with_reducible apply t_lenRd Try.underlying23); (apply EvC.now; exact rfl); exact hRd; (simp only [List.set_cons_succ, List.set_cons_zero]; exact rfl); clear hR; intro w hR)
    | ((with_reducible apply q_ls hR); exact rfl; ((with_reducible first | apply t_addr (fRec _ (by decide)) | apply t_addr (fBlk _ (by decide)) | apply t_one tByteR | apply t_one tSlR | apply t_one tIntR | apply t_one tBlks | apply t_part tBlk) <;> (first | (apply EvC.gv; exact rfl; (with_reducible first | exact Imp.refl _ | (apply Imp.left; exact Imp.refl _) | (apply Imp.right; exact Imp.refl _) | (apply Imp.left; apply Imp.left; exact Imp.refl _))) | (apply EvC.now; exact rfl) | exact rfl | (with_reducible exact EvAll.nil) | (focus (repeat (first | apply EvAll.cons | exact EvAll.nil | (apply EvC.gv; exact rfl; (with_reducible first | exact Imp.refl _ | (apply Imp.left; exact Imp.refl _) | (apply Imp.right; exact Imp.refl _) | (apply Imp.left; apply Imp.left; exact Imp.refl _))) | (apply EvC.now; exact rfl))); done) | exact ext_blk _ _ _ | (focus (repeat (first | apply List.Mem.head | apply List.Mem.tail | apply List.mem_append_right))))); (simp only [List.set_cons_succ, List.set_cons_zero]; exact rfl); clear hR; intro w hR))
      by_cases hkl : k < l.length
      · refine wp_cond_at (nm := true) rfl (by simp; omega) (fun _ => ?_) (fun h => absurd h (by decide))
        obtain ⟨z, hz⟩ : ∃ z, l[k]? = some z := ⟨_, List.getElem?_eq_getElem hkl⟩
        obtain ⟨a, ha⟩ : ∃ a, ds[k]? = some a := ⟨_, List.getElem?_eq_getElem (by rw [hlen]; exact hkl)⟩
        have hza := hd k a z ha hz
        have hzs := hlz z (List.mem_of_getElem? hz)
        have hel := hx.el cellsK_len ha
        rw [hlen] at hel
        obtain ⟨ad, cap, rfl, hcell⟩ := hel
        have HM4 := Lib.hid (show ∀ w, Own w0 w [(g1, encK t v (.slice (some ad) l.length cap), 25)] → ∀ jj u, (encK a.t a.v a.x).toList[jj]? = some u → w.cell? ((ad.add ((k : Int).toNat * 3)).add jj) = some u from fun w hC => by rw [Int.toNat_natCast]; exact (hx.own hC).cell cellsK_len ha)
        have HTK := Lib.hid (show (bs ++ spreadL (l.take k)) ++ spreadB z = bs ++ spreadL (l.take (k + 1)) by rw [spreadL_more hz, List.append_assoc])
        have hL1 : (bs ++ spreadL (l.take k)).length + (spreadB z).length ≤ 1000000 := by
          have h1 := congrArg List.length HTK.out
          rw [List.length_append] at h1
          rw [h1]
          have h2 := spreadL_append (l.take (k + 1)) (l.drop (k + 1))
          rw [List.take_append_drop] at h2
          rw [h2] at hon
          simp only [List.length_append] at hon ⊢
          omega
        clear hcell ha hz
        go_wp2_with (first
    | ((with_reducible apply q_ls hR); exact rfl; (with_reducible apply t_six Try.underlying23 iBlk); (apply EvC.now; exact rfl); (apply EvC.now; exact rfl); (constructor <;> omega); (simp only [List.set_cons_succ, List.set_cons_zero]; exact rfl); clear hR; intro w hR)
    | ((with_reducible apply q_ls hR); exact rfl; (with_reducible apply t_manyW tBlk); (apply EvC.now; exact rfl); (exact HM4.out); exact rfl; (simp only [List.set_cons_succ, List.set_cons_zero]; exact rfl); clear hR; intro w hR)
    | (go_at_call 7; refine (IH.out z (by omega) hzs a _ (hza.own hR)).mono ?_; rintro e w' ⟨rfl, hb⟩; replace hR := hR.grow hb; clear hb)
    | ((with_reducible apply q_ls hR); exact rfl; (with_reducible apply t_catE); (apply EvC.now; exact rfl); (apply EvC.now; exact rfl); exact hL1; exact HTK.out; (simp only [List.set_cons_succ, List.set_cons_zero]; exact rfl); clear hR; intro w hR)
    | ((with_reducible apply q_ls hR); exact rfl; ((with_reducible first | apply t_addr (fRec _ (by decide)) | apply t_addr (fBlk _ (by decide)) | apply t_one tByteR | apply t_one tSlR | apply t_one tIntR | apply t_one tBlks | apply t_part tBlk) <;> (first | (apply EvC.gv; exact rfl; (with_reducible first | exact Imp.refl _ | (apply Imp.left; exact Imp.refl _) | (apply Imp.right; exact Imp.refl _) | (apply Imp.left; apply Imp.left; exact Imp.refl _))) | (apply EvC.now; exact rfl) | exact rfl | (with_reducible exact EvAll.nil) | (focus (repeat (first | apply EvAll.cons | exact EvAll.nil | (apply EvC.gv; exact rfl; (with_reducible first | exact Imp.refl _ | (apply Imp.left; exact Imp.refl _) | (apply Imp.right; exact Imp.refl _) | (apply Imp.left; apply Imp.left; exact Imp.refl _))) | (apply EvC.now; exact rfl))); done) | exact ext_blk _ _ _ | (focus (repeat (first | apply List.Mem.head | apply List.Mem.tail | apply List.mem_append_right))))); (simp only [List.set_cons_succ, List.set_cons_zero]; exact rfl); clear hR; intro w hR))
        go_round
        case rel => exact ⟨k + 1, rfl, by omega, rfl, hR⟩
        case measure => simp [intOf]; omega
      · refine wp_cond_at (nm := false) rfl (by simp; omega) (fun h => absurd h (by decide)) (fun _ => ?_)
        obtain rfl : k = l.length := by omega
        rw [List.take_length]
        obtain ⟨X, hX⟩ : ∃ X, bs ++ spreadL l = X := ⟨_, rfl⟩
        rw [hX] at hon ⊢
        obtain ⟨m, rfl⟩ : ∃ m : Nat, t = m := Int.eq_ofNat_of_zero_le (by omega)
        have hE : spreadB (.mk m bs l) = (List.replicate m X).flatten := by simp only [spreadB, hX, Int.toNat_natCast]
        clear hX hRd hk hkl hlz IH hd hx hv
        go_wp2_with fail
        go_loopw [4, 6] (fun s i wr => ∃ k : Nat, i = .int .i64 k ∧ k ≤ m ∧ s = .string (strOfNums (List.replicate k X).flatten) ∧ Own w0 wr [(g1, encK m v x, 25)]) (fun _ i _ => m - (intOf i).toNat)
        case atStart => exact ⟨0, rfl, Nat.zero_le _, rfl, hR⟩
        case round =>
          clear hR
          obtain ⟨k, rfl, hk, rfl, hR⟩ := hrel
          go_upto_if 28 with (first
    | ((with_reducible apply q_ls hR); exact rfl; ((with_reducible first | apply t_addr (fRec _ (by decide)) | apply t_addr (fBlk _ (by decide)) | apply t_one tByteR | apply t_one tSlR | apply t_one tIntR | apply t_one tBlks | apply t_part tBlk) <;> (first | (apply EvC.gv; exact rfl; (with_reducible first | exact Imp.refl _ | (apply Imp.left; exact Imp.refl _) | (apply Imp.right; exact Imp.refl _) | (apply Imp.left; apply Imp.left; exact Imp.refl _))) | (apply EvC.now; exact rfl) | exact rfl | (with_reducible exact EvAll.nil) | (focus (repeat (first | apply EvAll.cons | exact EvAll.nil | (apply EvC.gv; exact rfl; (with_reducible first | exact Imp.refl _ | (apply Imp.left; exact Imp.refl _) | (apply Imp.right; exact Imp.refl _) | (apply Imp.left; apply Imp.left; exact Imp.refl _))) | (apply EvC.now; exact rfl))); done) | exact ext_blk _ _ _ | (focus (repeat (first | apply List.Mem.head | apply List.Mem.tail | apply List.mem_append_right))))); (simp only [List.set_cons_succ, List.set_cons_zero]; exact rfl); clear hR; intro w hR))
          by_cases hkl : k < m
          · refine wp_cond_at (nm := true) rfl (by simp; omega) (fun _ => ?_) (fun h => absurd h (by decide))
            have HTK := Lib.hid (rep_more k X).symm
            have hL1 : (List.replicate k X).flatten.length + X.length ≤ 1000000 := by
              rw [flat_rep]
              have : k * X.length ≤ 4 * X.length := Nat.mul_le_mul_right _ (by omega)
              omega
            go_wp2_with (first
    | ((with_reducible apply q_ls hR); exact rfl; (with_reducible apply t_catE); (apply EvC.now; exact rfl); (apply EvC.now; exact rfl); exact hL1; exact HTK.out; (simp only [List.set_cons_succ, List.set_cons_zero]; exact rfl); clear hR; intro w hR))
            go_round
            case rel => exact ⟨k + 1, rfl, by omega, rfl, hR⟩
            case measure => simp [intOf]; omega
          · refine wp_cond_at (nm := false) rfl (by simp; omega) (fun h => absurd h (by decide)) (fun _ => ?_)
            obtain rfl : k = m := by omega
            go_wp2_with fail
            go_ret
            exact ⟨rfl, hR.below⟩
/-! ### Its bytes -/
def capP : Nat → Nat
  | 0 => 0
  | n + 1 => 11 + 3 * capP n
theorem capP_most : ∀ {n : Nat}, n ≤ 4 → capP n ≤ 440
  | 0, _ => by decide
  | 1, _ => by decide
  | 2, _ => by decide
  | 3, _ => by decide
  | 4, _ => by decide
theorem putL_len {c : Nat} : ∀ {l : List BlkZ}, (∀ z ∈ l, (putB z).length ≤ c) → (putL l).length ≤ l.length * c
  | [], _ => by simp [putL]
  | z :: l, h => by
    have h1 := h z (.head _)
    have h2 := putL_len (l := l) fun x hx => h x (.tail _ hx)
    simp only [putL, List.length_append, List.length_cons, Nat.add_mul]
    omega
theorem putB_leaf (t : Int) (b : List Int) : putB (.mk t b []) = (bytesN t.toNat 2 ++ bytesN 0 2) ++ nam18 b := by simp only [putB, List.append_assoc]
theorem putB_node (t : Int) (b : List Int) {l : List BlkZ} (h : l ≠ []) : putB (.mk t b l) = (bytesN t.toNat 2 ++ bytesN l.length 2) ++ putL l := by
  cases l with
  | nil => exact absurd rfl h
  | cons z l => simp only [putB, putL, List.append_assoc, List.length_cons]
theorem sm_put : ∀ (n : Nat) (z : BlkZ), smB n z → (putB z).length ≤ capP n
  | 0, _, h => h.elim
  | n + 1, .mk t b [], h => by
    have h1 := nam18_len b
    have h2 := h.2.2.1
    rw [putB_leaf]
    simp only [List.length_append, bytesN_len, capP]
    omega
  | n + 1, .mk t b (z :: l), h => by
    have h1 := putL_len fun x hx => sm_put n x (h.2.2.2.2 x hx)
    have h2 : (z :: l).length * capP n ≤ 3 * capP n := Nat.mul_le_mul_right _ h.2.2.2.1
    rw [putB_node t b (List.cons_ne_nil z l)]
    simp only [List.length_append, bytesN_len, capP] at h1 ⊢
    omega
theorem putL_ok : ∀ {l : List BlkZ}, (∀ z ∈ l, bytesOk (putB z)) → bytesOk (putL l)
  | [], _ => by rw [putL]; exact .nil
  | z :: l, h => by rw [putL]; exact (h z (.head _)).append (putL_ok fun x hx => h x (.tail _ hx))
theorem sm_put_ok : ∀ (n : Nat) (z : BlkZ), smB n z → bytesOk (putB z)
  | 0, _, h => h.elim
  | n + 1, .mk t b [], h => by
    rw [putB_leaf]
    exact ((bytesN_ok _ _).append (bytesN_ok _ _)).append (nam18_ok h.2.1)
  | n + 1, .mk t b (z :: l), h => by
    rw [putB_node t b (List.cons_ne_nil z l)]
    exact ((bytesN_ok _ _).append (bytesN_ok _ _)).append (putL_ok fun x hx => sm_put_ok n x (h.2.2.2.2 x hx))
set_option maxHeartbeats 4000000 in
set_option maxRecDepth 100000 in
theorem r24put_any : ∀ (n : Nat) (z : BlkZ), n ≤ 4 → smB n z → ∀ (d : BlkV) (w0 : World), BlkAt w0 d z →
    Calls Try.prog 13 #[.agg (encK d.t d.v d.x)] w0 fun e w' => e = .returned (.string (strOfNums (putB z))) ∧ Below w0.heap.size w0 w'
  | 0, _, _, h, _, _, _ => h.elim
  | n + 1, z, hn4, hsm, d, w0, hB => by
    obtain @⟨t, v, x, bs, ds, l, ht, hv, hm, hx, hlen, hd⟩ := hB
    have IH := Lib.hid (r24put_any n)
    have hsm0 := hsm
    obtain ⟨ht4, hbo, hb6, hl3, hlz⟩ := hsm
    have hcap := capP_most (n := n) (by omega)
    have hpl := putL_len fun z hz => sm_put n z (hlz z hz)
    have hpl2 : l.length * capP n ≤ 3 * capP n := Nat.mul_le_mul_right _ hl3
    clear hsm0
    have hRd : Rd w0 3 x l.length (ds.flatMap cellsK) := by rw [← hlen]; exact hx
    obtain ⟨m, rfl⟩ : ∃ m : Nat, t = m := Int.eq_ofNat_of_zero_le (by omega)
    obtain ⟨T, hT⟩ : ∃ T, bytesN m 2 = T := ⟨_, rfl⟩
    have hTl : T.length = 2 := by rw [← hT]; exact bytesN_len _ _
    have HT := Lib.hid (fun w => r18bytes_any m 2 w (by omega) (by decide))
    rw [hT] at HT
    obtain ⟨L, hL⟩ : ∃ L, bytesN l.length 2 = L := ⟨_, rfl⟩
    have hLl : L.length = 2 := by rw [← hL]; exact bytesN_len _ _
    have HL := Lib.hid (fun w => r18bytes_any l.length 2 w (by omega) (by decide))
    rw [hL] at HL
    obtain ⟨K, hK⟩ : ∃ K, T ++ L = K := ⟨_, rfl⟩
    have hKl : K.length = 4 := by rw [← hK, List.length_append]; omega
    have HK := Lib.hid hK
    have HU1 := Lib.hid (show IntKind.u64.wrap (m : Int) = (m : Int) by rw [IntKind.wrap_u64]; omega)
    have HU2 := Lib.hid (show IntKind.u64.wrap (l.length : Int) = (l.length : Int) by rw [IntKind.wrap_u64]; omega)
    have HE : putB (.mk (m : Int) bs l) = if l.length = 0 then K ++ nam18 bs else K ++ putL l := by
      clear hpl hpl2 HL HU2 hd hRd hlen hlz hl3
      cases l with
      | nil => rw [putB_leaf, Int.toNat_natCast, hT, ← hK, ← hL]; rfl
      | cons z l => rw [putB_node _ _ (List.cons_ne_nil z l), Int.toNat_natCast, hT, hL, hK]; rfl
    rw [HE]
    clear hT hL hK HE
    have hR := Own.start w0
    dsimp only
    go_enter Try.func13, Try.ntmps13
    go_upto_region 1 with (first
    | ((with_reducible apply wpList_box hR); exact rfl; exact rfl; clear hR; intro g1 w hR; simp only [List.set_cons_succ, List.set_cons_zero]))
    refine wp_region_rows hR [0, 1, 2, 3, 4, 5, 6, 7, 8, 9, 10] 0 (by kernel_rfl) (by kernel_rfl) (by kernel_rfl) rfl ?_
    clear hR; intro hR
    repeat (refine wpT_step rfl ?_; first
    | ((with_reducible apply q_kn); exact rfl; (with_reducible apply t_call Try.call22); (first | (apply EvC.gv; exact rfl; (with_reducible first | exact Imp.refl _ | (apply Imp.left; exact Imp.refl _) | (apply Imp.right; exact Imp.refl _) | (apply Imp.left; apply Imp.left; exact Imp.refl _))) | (apply EvC.now; exact rfl) | exact rfl | (with_reducible exact EvAll.nil) | (focus (repeat (first | apply EvAll.cons | exact EvAll.nil | (apply EvC.gv; exact rfl; (with_reducible first | exact Imp.refl _ | (apply Imp.left; exact Imp.refl _) | (apply Imp.right; exact Imp.refl _) | (apply Imp.left; apply Imp.left; exact Imp.refl _))) | (apply EvC.now; exact rfl))); done) | exact ext_blk _ _ _ | (focus (repeat (first | apply List.Mem.head | apply List.Mem.tail | apply List.mem_append_right)))); (intro hcc w hC; (with_reducible first | exact tame_below (HT.out _) hC | exact tame_below (HL.out _) hC)); (simp only [List.set_cons_succ, List.set_cons_zero]; exact rfl))
    | ((with_reducible apply q_kn); exact rfl; (with_reducible apply t_conv Try.underlying3 Try.underlying52); (apply EvC.now; exact rfl); (with_reducible first | exact HU1.out | exact HU2.out); (simp only [List.set_cons_succ, List.set_cons_zero]; exact rfl))
    | ((with_reducible apply q_kn); exact rfl; (with_reducible apply t_lenRd Try.underlying23); (apply EvC.now; exact rfl); exact hRd; (simp only [List.set_cons_succ, List.set_cons_zero]; exact rfl))
    | ((with_reducible apply q_kn); exact rfl; (with_reducible apply t_catE); (apply EvC.now; exact rfl); (apply EvC.now; exact rfl); omega; exact HK.out; (simp only [List.set_cons_succ, List.set_cons_zero]; exact rfl))
    | ((with_reducible apply q_kn); exact rfl; (first | ((with_reducible first | apply t_move | apply t_assign | apply t_addr (fRec _ (by decide)) | apply t_addr (fBlk _ (by decide)) | apply t_one tByteR | apply t_one tSlR | apply t_one tIntR | apply t_one tBlks | apply t_part tBlk) <;> (first | (apply EvC.gv; exact rfl; (with_reducible first | exact Imp.refl _ | (apply Imp.left; exact Imp.refl _) | (apply Imp.right; exact Imp.refl _) | (apply Imp.left; apply Imp.left; exact Imp.refl _))) | (apply EvC.now; exact rfl) | exact rfl | (with_reducible exact EvAll.nil) | (focus (repeat (first | apply EvAll.cons | exact EvAll.nil | (apply EvC.gv; exact rfl; (with_reducible first | exact Imp.refl _ | (apply Imp.left; exact Imp.refl _) | (apply Imp.right; exact Imp.refl _) | (apply Imp.left; apply Imp.left; exact Imp.refl _))) | (apply EvC.now; exact rfl))); done) | exact ext_blk _ _ _ | (focus (repeat (first | apply List.Mem.head | apply List.Mem.tail | apply List.mem_append_right))))) | ((with_reducible apply t_pick); (apply EvC.now; exact rfl); (apply EvC.now; exact rfl))); (simp only [List.set_cons_succ, List.set_cons_zero]; exact rfl)))
    refine wpG_end hR (by kernel_rfl) ?_
    clear hR; intro w hR
    go_upto_if 18 with (first
    | ((with_reducible apply q_ls hR); exact rfl; (with_reducible apply t_lenRd Try.underlying23); (apply EvC.now; exact rfl); exact hRd; (simp only [List.set_cons_succ, List.set_cons_zero]; exact rfl); clear hR; intro w hR)
    | ((with_reducible apply q_ls hR); exact rfl; ((with_reducible first | apply t_addr (fRec _ (by decide)) | apply t_addr (fBlk _ (by decide)) | apply t_one tByteR | apply t_one tSlR | apply t_one tIntR | apply t_one tBlks | apply t_part tBlk) <;> (first | (apply EvC.gv; exact rfl; (with_reducible first | exact Imp.refl _ | (apply Imp.left; exact Imp.refl _) | (apply Imp.right; exact Imp.refl _) | (apply Imp.left; apply Imp.left; exact Imp.refl _))) | (apply EvC.now; exact rfl) | exact rfl | (with_reducible exact EvAll.nil) | (focus (repeat (first | apply EvAll.cons | exact EvAll.nil | (apply EvC.gv; exact rfl; (with_reducible first | exact Imp.refl _ | (apply Imp.left; exact Imp.refl _) | (apply Imp.right; exact Imp.refl _) | (apply Imp.left; apply Imp.left; exact Imp.refl _))) | (apply EvC.now; exact rfl))); done) | exact ext_blk _ _ _ | (focus (repeat (first | apply List.Mem.head | apply List.Mem.tail | apply List.mem_append_right))))); (simp only [List.set_cons_succ, List.set_cons_zero]; exact rfl); clear hR; intro w hR))
    by_cases hl0 : l.length = 0
    · refine wp_cond_at (nm := true) rfl (by simp [hl0]) (fun _ => ?_) (fun h => absurd h (by decide))
      go_wp2_with (first
    | ((with_reducible apply q_ls hR); exact rfl; (with_reducible apply t_strW tTextN); (apply EvC.now; exact rfl); (exact fun w hC => hv.own hC); (simp only [List.set_cons_succ, List.set_cons_zero]; exact rfl); clear hR; intro w hR)
    | (go_at_call 23; refine (r18name_any bs _ hbo (by omega)).mono ?_; rintro e w' ⟨rfl, hb⟩; replace hR := hR.grow hb; clear hb)
    | ((with_reducible apply q_ls hR); exact rfl; (with_reducible apply t_catE); (apply EvC.now; exact rfl); (apply EvC.now; exact rfl); (rw [nam18_len]; omega); exact rfl; (simp only [List.set_cons_succ, List.set_cons_zero]; exact rfl); clear hR; intro w hR)
    | ((with_reducible apply q_ls hR); exact rfl; ((with_reducible first | apply t_addr (fRec _ (by decide)) | apply t_addr (fBlk _ (by decide)) | apply t_one tByteR | apply t_one tSlR | apply t_one tIntR | apply t_one tBlks | apply t_part tBlk) <;> (first | (apply EvC.gv; exact rfl; (with_reducible first | exact Imp.refl _ | (apply Imp.left; exact Imp.refl _) | (apply Imp.right; exact Imp.refl _) | (apply Imp.left; apply Imp.left; exact Imp.refl _))) | (apply EvC.now; exact rfl) | exact rfl | (with_reducible exact EvAll.nil) | (focus (repeat (first | apply EvAll.cons | exact EvAll.nil | (apply EvC.gv; exact rfl; (with_reducible first | exact Imp.refl _ | (apply Imp.left; exact Imp.refl _) | (apply Imp.right; exact Imp.refl _) | (apply Imp.left; apply Imp.left; exact Imp.refl _))) | (apply EvC.now; exact rfl))); done) | exact ext_blk _ _ _ | (focus (repeat (first | apply List.Mem.head | apply List.Mem.tail | apply List.mem_append_right))))); (simp only [List.set_cons_succ, List.set_cons_zero]; exact rfl); clear hR; intro w hR))
      go_ret
      exact ⟨rfl, hR.below⟩
    · refine wp_cond_at (nm := false) rfl (by simp [hl0]) (fun h => absurd h (by decide)) (fun _ => ?_)
      go_wp2_with fail
      go_loopw [3, 4] (fun s i wr => ∃ k : Nat, i = .int .i64 k ∧ k ≤ l.length ∧ s = .string (strOfNums (K ++ putL (l.take k))) ∧ Own w0 wr [(g1, encK m v x, 25)]) (fun _ i _ => l.length - (intOf i).toNat)
      case atStart => exact ⟨0, rfl, Nat.zero_le _, by simp [putL], hR⟩
      case round =>
        clear hR
        obtain ⟨k, rfl, hk, rfl, hR⟩ := hrel
        go_upto_if 29 with (first
    | ((with_reducible apply q_ls hR); exact rfl; (with_reducible apply t_lenRd Try.underlying23); (apply EvC.now; exact rfl); exact hRd; (simp only [List.set_cons_succ, List.set_cons_zero]; exact rfl); clear hR; intro w hR)
    | ((with_reducible apply q_ls hR); exact rfl; ((with_reducible first | apply t_addr (fRec _ (by decide)) | apply t_addr (fBlk _ (by decide)) | apply t_one tByteR | apply t_one tSlR | apply t_one tIntR | apply t_one tBlks | apply t_part tBlk) <;> (first | (apply EvC.gv; exact rfl; (with_reducible first | exact Imp.refl _ | (apply Imp.left; exact Imp.refl _) | (apply Imp.right; exact Imp.refl _) | (apply Imp.left; apply Imp.left; exact Imp.refl _))) | (apply EvC.now; exact rfl) | exact rfl | (with_reducible exact EvAll.nil) | (focus (repeat (first | apply EvAll.cons | exact EvAll.nil | (apply EvC.gv; exact rfl; (with_reducible first | exact Imp.refl _ | (apply Imp.left; exact Imp.refl _) | (apply Imp.right; exact Imp.refl _) | (apply Imp.left; apply Imp.left; exact Imp.refl _))) | (apply EvC.now; exact rfl))); done) | exact ext_blk _ _ _ | (focus (repeat (first | apply List.Mem.head | apply List.Mem.tail | apply List.mem_append_right))))); (simp only [List.set_cons_succ, List.set_cons_zero]; exact rfl); clear hR; intro w hR))
        by_cases hkl : k < l.length
        · refine wp_cond_at (nm := true) rfl (by simp; omega) (fun _ => ?_) (fun h => absurd h (by decide))
          obtain ⟨z, hz⟩ : ∃ z, l[k]? = some z := ⟨_, List.getElem?_eq_getElem hkl⟩
          obtain ⟨a, ha⟩ : ∃ a, ds[k]? = some a := ⟨_, List.getElem?_eq_getElem (by rw [hlen]; exact hkl)⟩
          have hza := hd k a z ha hz
          have hzs := hlz z (List.mem_of_getElem? hz)
          have hel := hx.el cellsK_len ha
          rw [hlen] at hel
          obtain ⟨ad, cap, rfl, hcell⟩ := hel
          have HM4 := Lib.hid (show ∀ w, Own w0 w [(g1, encK m v (.slice (some ad) l.length cap), 25)] → ∀ jj u, (encK a.t a.v a.x).toList[jj]? = some u → w.cell? ((ad.add ((k : Int).toNat * 3)).add jj) = some u from fun w hC => by rw [Int.toNat_natCast]; exact (hx.own hC).cell cellsK_len ha)
          have HTK := Lib.hid (show (K ++ putL (l.take k)) ++ putB z = K ++ putL (l.take (k + 1)) by rw [putL_more hz, List.append_assoc])
          have hL1 : (K ++ putL (l.take k)).length + (putB z).length ≤ 1000000 := by
            have h1 := congrArg List.length HTK.out
            rw [List.length_append] at h1
            rw [h1]
            have h2 := putL_append (l.take (k + 1)) (l.drop (k + 1))
            rw [List.take_append_drop] at h2
            rw [h2] at hpl
            simp only [List.length_append] at hpl ⊢
            omega
          clear hcell ha hz
          go_wp2_with (first
    | ((with_reducible apply q_ls hR); exact rfl; (with_reducible apply t_six Try.underlying23 iBlk); (apply EvC.now; exact rfl); (apply EvC.now; exact rfl); (constructor <;> omega); (simp only [List.set_cons_succ, List.set_cons_zero]; exact rfl); clear hR; intro w hR)
    | ((with_reducible apply q_ls hR); exact rfl; (with_reducible apply t_manyW tBlk); (apply EvC.now; exact rfl); (exact HM4.out); exact rfl; (simp only [List.set_cons_succ, List.set_cons_zero]; exact rfl); clear hR; intro w hR)
    | (go_at_call 13; refine (IH.out z (by omega) hzs a _ (hza.own hR)).mono ?_; rintro e w' ⟨rfl, hb⟩; replace hR := hR.grow hb; clear hb)
    | ((with_reducible apply q_ls hR); exact rfl; (with_reducible apply t_catE); (apply EvC.now; exact rfl); (apply EvC.now; exact rfl); exact hL1; exact HTK.out; (simp only [List.set_cons_succ, List.set_cons_zero]; exact rfl); clear hR; intro w hR)
    | ((with_reducible apply q_ls hR); exact rfl; ((with_reducible first | apply t_addr (fRec _ (by decide)) | apply t_addr (fBlk _ (by decide)) | apply t_one tByteR | apply t_one tSlR | apply t_one tIntR | apply t_one tBlks | apply t_part tBlk) <;> (first | (apply EvC.gv; exact rfl; (with_reducible first | exact Imp.refl _ | (apply Imp.left; exact Imp.refl _) | (apply Imp.right; exact Imp.refl _) | (apply Imp.left; apply Imp.left; exact Imp.refl _))) | (apply EvC.now; exact rfl) | exact rfl | (with_reducible exact EvAll.nil) | (focus (repeat (first | apply EvAll.cons | exact EvAll.nil | (apply EvC.gv; exact rfl; (with_reducible first | exact Imp.refl _ | (apply Imp.left; exact Imp.refl _) | (apply Imp.right; exact Imp.refl _) | (apply Imp.left; apply Imp.left; exact Imp.refl _))) | (apply EvC.now; exact rfl))); done) | exact ext_blk _ _ _ | (focus (repeat (first | apply List.Mem.head | apply List.Mem.tail | apply List.mem_append_right))))); (simp only [List.set_cons_succ, List.set_cons_zero]; exact rfl); clear hR; intro w hR))
          go_round
          case rel => exact ⟨k + 1, rfl, by omega, rfl, hR⟩
          case measure => simp [intOf]; omega
        · refine wp_cond_at (nm := false) rfl (by simp; omega) (fun h => absurd h (by decide)) (fun _ => ?_)
          obtain rfl : k = l.length := by omega
          rw [List.take_length]
          go_wp2_with fail
          go_ret
          exact ⟨rfl, hR.below⟩
end Go.Proofs.Ytalgadinoaeihaa
