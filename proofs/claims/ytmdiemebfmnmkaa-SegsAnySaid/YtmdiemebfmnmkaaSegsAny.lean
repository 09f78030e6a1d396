/- The law SegsAny (whatever bytes come, they are a segment's that may be, or none) returns true whatever the arguments, and each argument reads afterwards as before. There is no condition on the arguments. -/
import Derived.Test.YtmdiemebfmnmkaaRows
import Derived.Test.YtmdiemebfmnmkaaLaw21
import Derived.Test.YtmdiemebfmnmkaaByt
import Derived.Test.YtmdiemebfmnmkaaMark
import Derived.Test.YtmdiemebfmnmkaaBytesArg
import Derived.WalkKit
import Derived.ProofKit
import Derived.OpenShut
import Derived.ShutString
import Derived.ChangeOld
import Derived.Below
namespace Go.Proofs.Ytmdiemebfmnmkaa.segsAny
open Go.ChangeShapes Go.WideShapes Go.ChangeAt Go.RowKit
open Go.ChangeMaps (open_string shut_string)
set_option linter.unusedVariables false
set_option linter.unusedSimpArgs false

theorem own : ownKnob Try.prog.godebug = none := by kernel_rfl
theorem laidOut : laidOutB Try.prog = true := by kernel_rfl










theorem min14 (n : Nat) : (if (14 : Int) < (n : Int) then 14 else (n : Int)) = ((min n 14 : Nat) : Int) := by split <;> omega
theorem bZ : Built Try.prog 24 [] (encSeg zeroS) := ⟨by kernel_rfl⟩
theorem n20 : cmpB .neq 2 0 = some true := rfl
theorem n30 : cmpB .neq 3 0 = some true := rfl
theorem n00 : cmpB .neq 0 0 = some false := rfl
theorem e32 : cmpB .eql 3 2 = some false := rfl
theorem one_shl8 (b : Nat) (h : b ≤ 7) : IntKind.u8.wrap (1 * 2 ^ b) = ((2 ^ b : Nat) : Int) ∧ (1 ≤ ((2 ^ b : Nat) : Int) ∧ ((2 ^ b : Nat) : Int) ≤ 255) := by
  match b, h with
  | 0, _ => decide
  | 1, _ => decide
  | 2, _ => decide
  | 3, _ => decide
  | 4, _ => decide
  | 5, _ => decide
  | 6, _ => decide
  | 7, _ => decide
set_option maxHeartbeats 4000000 in
set_option maxRecDepth 100000 in
theorem walk {base : Nat} {w0 : World} (v0 : Value) (k0 : Value.okWide Try.prog w0 .any base 24 v0) (at' : Int) (ha : (Lit.int .i64 at').wf = true) (v2 : Value) (hB : BytesAt w0 v2) (wi : World) :
    Calls Try.prog 4 #[v0, .int .i64 at', v2] w0 fun e w' => e = .returned (.bool true) ∧ Below w0.heap.size w0 w' := by
  clear wi
  obtain ⟨s, hs, rfl⟩ := open_seg k0
  clear k0
  obtain ⟨body, hS0, hlen⟩ := hB
  obtain ⟨ha0, ha1⟩ := bounds_i64 ha
  have hR := Own.start w0
  obtain ⟨d, hd⟩ : ∃ d, nearS s 6 = d := ⟨_, rfl⟩
  have hdo : d.ok := by rw [← hd]; exact nearS_ok hs 6
  have hdm : MayS d := by rw [← hd]; exact near6_may hs
  have HNEAR := Lib.hid (fun w => near21_any s hs 6 (by decide) w)
  have HSEG := Lib.hid (fun w => r21seg_any d hdm hdo w)
  rw [hd] at HNEAR
  have hbo := segB_ok hdm hdo
  have hbl := segB_len d
  obtain ⟨bs, hbs⟩ : ∃ bs, segB d = bs := ⟨_, rfl⟩
  rw [hbs] at HSEG hbo hbl
  obtain ⟨hbl0, hbl1⟩ := hbl
  clear hd hbs
  go_enter Try.func4, Try.ntmps4
  go_upto_region 3 with (first
    | ((with_reducible apply wpList_box hR); exact rfl; exact rfl; clear hR; intro g w hR; simp only [List.set_cons_succ, List.set_cons_zero])
    | (go_at_call 6; refine (HNEAR.out _).mono ?_; rintro e w' ⟨rfl, hb⟩; replace hR := hR.grow hb; clear hb)
    | (go_at_call 12; refine (HSEG.out _).mono ?_; rintro e w' ⟨rfl, hb⟩; replace hR := hR.grow hb; clear hb)
    | ((with_reducible apply wpList_make hR zSeg); exact rfl; clear hR; intro g w hR; simp only [List.set_cons_succ, List.set_cons_zero])
    | ((with_reducible apply wpList_put hR tSeg); exact rfl; exact rfl; exact rfl; (focus (repeat (first | apply List.Mem.head | apply List.Mem.tail | apply List.mem_append_right))); exact put_seg _ _; exact rfl; simp [encSeg]; exact one_seg _; (focus (repeat (first | apply Upd.head | apply Upd.tail))); clear hR; intro w hR)
    | ((with_reducible apply wpList_bytesO hR Try.underlying9 Try.underlying26 Try.underlying5 hbo); exact rfl; exact rfl; clear hR; intro g cap cur w hR hM; simp only [List.set_cons_succ, List.set_cons_zero])
    | ((with_reducible apply q_ls hR); exact rfl; ((with_reducible first | apply t_addr (fRec _ (by decide)) | apply t_addr (fSeg _ (by decide)) | apply t_one tByteR | apply t_one tSlR | apply t_one tIntR | apply t_one tWordS | apply t_part tSeg) <;> (first | (apply EvC.gv; exact rfl; (with_reducible first | exact Imp.refl _ | (apply Imp.left; exact Imp.refl _) | (apply Imp.right; exact Imp.refl _) | (apply Imp.left; apply Imp.left; exact Imp.refl _))) | (apply EvC.now; exact rfl) | exact rfl | (with_reducible exact EvAll.nil) | (focus (repeat (first | apply EvAll.cons | exact EvAll.nil | (apply EvC.gv; exact rfl; (with_reducible first | exact Imp.refl _ | (apply Imp.left; exact Imp.refl _) | (apply Imp.right; exact Imp.refl _) | (apply Imp.left; apply Imp.left; exact Imp.refl _))) | (apply EvC.now; exact rfl))); done) | exact ext_seg _ | (focus (repeat (first | apply List.Mem.head | apply List.Mem.tail | apply List.mem_append_right))))); (simp only [List.set_cons_succ, List.set_cons_zero]; exact rfl); clear hR; intro w hR))
  obtain ⟨k, hk⟩ : ∃ k : Nat, (at' % 256) % (bs.length : Int) = k := ⟨((at' % 256) % (bs.length : Int)).toNat, (Int.toNat_of_nonneg (Int.emod_nonneg _ (by omega))).symm⟩
  have hkb : k < bs.length := by have := Int.emod_lt_of_pos (at' % 256) (b := (bs.length : Int)) (by omega); omega
  have HK1 := Lib.hid (show bits .and .i64 at' 255 = at' % 256 from i64_mask at' 8 255 (by decide) (by decide))
  have HK2 := Lib.hid (show (at' % 256).tmod (bs.length : Int) = (k : Int) by rw [rem_in (by omega)]; exact hk)
  obtain ⟨x, hx⟩ : ∃ x, bs[k]? = some x := ⟨_, List.getElem?_eq_getElem hkb⟩
  have hxb := hbo.at hx
  have HX := Lib.hid hx
  obtain ⟨p, hp⟩ : ∃ p, at' / 256 = p := ⟨_, rfl⟩
  have HS1 := Lib.hid (show at' / 2 ^ 8 = p from hp)
  obtain ⟨b, hb⟩ : ∃ b : Nat, p % 8 = b := Int.eq_ofNat_of_zero_le (by omega)
  have hb7 : b ≤ 7 := by omega
  have HS2 := Lib.hid (show bits .and .i64 p 7 = (b : Int) from (i64_mask p 3 7 (by decide) (by decide)).trans hb)
  have HS3 := Lib.hid (show IntKind.u64.wrap (b : Int) = (b : Int) by rw [IntKind.wrap_u64]; omega)
  obtain ⟨hz1, hz2⟩ := one_shl8 b hb7
  obtain ⟨z, hz⟩ : ∃ z : Int, ((2 ^ b : Nat) : Int) = z := ⟨_, rfl⟩
  rw [hz] at hz1 hz2
  have HZ1 := Lib.hid hz1
  obtain ⟨hyb, hyn⟩ := xor8 hxb hz2
  obtain ⟨y, hy⟩ : ∃ y, bits .xor .u8 x z = y := ⟨_, rfl⟩
  rw [hy] at hyb
  have HY := Lib.hid hy
  obtain ⟨p2, hp2⟩ : ∃ p2, at' / 2048 = p2 := ⟨_, rfl⟩
  have HT1 := Lib.hid (show at' / 2 ^ 11 = p2 from hp2)
  obtain ⟨q, hq⟩ : ∃ q, p2 % 4 = q := ⟨_, rfl⟩
  have HT2 := Lib.hid (show bits .and .i64 p2 3 = q from (i64_mask p2 2 3 (by decide) (by decide)).trans hq)
  clear hk hx hp hb hz1 hz hy hyn hp2 hq
  go_upto_region 5 with (first
    | ((with_reducible apply q_ls0); exact rfl; (with_reducible apply t_len Try.underlying26); (apply EvC.now; exact rfl); (simp only [List.set_cons_succ, List.set_cons_zero]; exact rfl))
    | ((with_reducible apply q_ls0); exact rfl; (with_reducible apply t_numE); (apply EvC.now; exact rfl); (apply EvC.now; exact rfl); exact rfl; (with_reducible first | exact HK1.out | exact HS2.out | exact HY.out); (simp only [List.set_cons_succ, List.set_cons_zero]; exact rfl))
    | ((with_reducible apply q_ls0); exact rfl; (with_reducible apply t_rem); (apply EvC.now; exact rfl); (apply EvC.now; exact rfl); (omega); exact HK2.out; (simp only [List.set_cons_succ, List.set_cons_zero]; exact rfl))
    | ((with_reducible apply q_ls0); exact rfl; (with_reducible apply t_sixG (k := k) Try.underlying26 iByteR); (apply EvC.now; exact rfl); (apply EvC.now; exact rfl); exact rfl; exact hkb; (simp only [List.set_cons_succ, List.set_cons_zero]; exact rfl))
    | ((with_reducible apply q_ls0); exact rfl; (with_reducible apply t_cellW tByteR); (apply EvC.now; exact rfl); (exact fun _ h => h ▸ hM.cell HX.out); (simp only [List.set_cons_succ, List.set_cons_zero]; exact rfl))
    | ((with_reducible apply q_ls0); exact rfl; (with_reducible apply t_shrE (k := 8)); (apply EvC.now; exact rfl); (apply EvC.now; exact rfl); exact rfl; (decide); exact HS1.out; (simp only [List.set_cons_succ, List.set_cons_zero]; exact rfl))
    | ((with_reducible apply q_ls0); exact rfl; (with_reducible apply t_shlE (k := b)); (apply EvC.now; exact rfl); (apply EvC.now; exact rfl); exact rfl; (show b ≤ 8; omega); exact HZ1.out; (simp only [List.set_cons_succ, List.set_cons_zero]; exact rfl))
    | ((with_reducible apply q_ls0); exact rfl; (with_reducible apply t_conv Try.underlying3 Try.underlying38); (apply EvC.now; exact rfl); exact HS3.out; (simp only [List.set_cons_succ, List.set_cons_zero]; exact rfl))
    | ((with_reducible apply wpList_putMark hR tByteR hM); exact rfl; exact rfl; exact rfl; exact hkb; exact hyb; clear hR hM; intro w hR hM))
  have hS := hM.src
  have hyl : (bs.set k y).length ≤ 12 := by rw [List.length_set]; exact hbl1
  have hS1 := hS0.own hR
  rw [List.length_set] at hS
  generalize bs.set k y = ns at *
  clear hM hS0 HX HK1 HK2 HS1 HS2 HS3 HZ1 HY hxb hz2 hyb hb7 hkb hbl0 hbl1 hbo HSEG HNEAR
  have hZ2 := (Since.start w0).own hR
  have hR2 := hR.fresh
  clear hR
  try clear hZ
  have hZ := hZ2
  have hR := hR2
  clear hZ2 hR2
  obtain ⟨wb, hwb⟩ : ∃ x, x = w := ⟨_, rfl⟩
  subst hwb
  obtain ⟨m, hm⟩ : ∃ m, min body.length 14 = m := ⟨_, rfl⟩
  have hmb : m ≤ body.length := by omega
  have hm14 : m ≤ 14 := by omega
  have HM := Lib.hid (min14 body.length)
  rw [hm] at HM
  have hS2 := hS1.first m hmb
  have hS2l : (body.take m).length ≤ 14 := by rw [List.length_take]; omega
  clear hm
  go_upto_if 40 with (first
    | ((with_reducible apply q_ls hR); exact rfl; (with_reducible apply t_shrE (k := 11)); (apply EvC.now; exact rfl); (apply EvC.now; exact rfl); exact rfl; (decide); exact HT1.out; (simp only [List.set_cons_succ, List.set_cons_zero]; exact rfl); clear hR; intro w hR)
    | ((with_reducible apply q_ls hR); exact rfl; (with_reducible apply t_numE); (apply EvC.now; exact rfl); (apply EvC.now; exact rfl); exact rfl; exact HT2.out; (simp only [List.set_cons_succ, List.set_cons_zero]; exact rfl); clear hR; intro w hR))
  go_cut [8] (fun v wr => ∃ ys, SrcW wb v ys ∧ ys.length ≤ 14 ∧ Own wb wr [])
  case first =>
    by_cases hq0 : q = 0
    · refine wp_cond_at (nm := true) rfl (by simp [hq0]) (fun _ => ?_) (fun h => absurd h (by decide))
      go_wp2_with (first
    | ((with_reducible apply q_ls hR); exact rfl; (with_reducible apply t_lenW Try.underlying26); (apply EvC.now; exact rfl); exact hS1; (simp only [List.set_cons_succ, List.set_cons_zero]; exact rfl); clear hR; intro w hR)
    | ((with_reducible apply q_ls hR); exact rfl; (with_reducible apply t_minK); (apply EvC.now; exact rfl); (apply EvC.now; exact rfl); (exact HM.out); (simp only [List.set_cons_succ, List.set_cons_zero]; exact rfl); clear hR; intro w hR)
    | ((with_reducible apply q_ls hR); exact rfl; (with_reducible apply t_cutH tBytesN hS1); (apply EvC.now; exact rfl); (apply EvC.now; exact rfl); exact rfl; (exact hmb); (simp only [List.set_cons_succ, List.set_cons_zero]; exact rfl); clear hR; intro w hR))
      go_meet
      exact ⟨_, hS2, hS2l, hR⟩
    · refine wp_cond_at (nm := false) rfl (by simp [hq0]) (fun h => absurd h (by decide)) (fun _ => ?_)
      go_wp2_with fail
      go_meet
      exact ⟨_, hS, by omega, hR⟩
  case rest =>
  clear hR hS hS1 hS2 HT1 HT2 HM
  obtain ⟨ys, hS, hyl2, hR⟩ := hcut
  have hso := hS.ok
  go_wp2_with fail
  refine (segDef_any (hS.own hR) (by omega)).mono ?_
  rintro e w1 ⟨d2, x2, rfl, hb, hdis⟩
  replace hR := hR.grow hb
  clear hb
  rcases hdis with ⟨h3, rfl⟩ | ⟨_, rfl, rfl | rfl⟩
  · obtain ⟨h2m, h2o, h2l⟩ := seg_some hso h3
    have hm2 := (mayS_iff d2).2 h2m
    have HREF := Lib.hid (fun w => r21may_any d2 w)
    rw [hm2] at HREF
    clear h3
    go_upto_region 8 with (first
    | ((with_reducible apply wpList_make hR zSeg); exact rfl; clear hR; intro g w hR; simp only [List.set_cons_succ, List.set_cons_zero])
    | ((with_reducible apply wpList_put hR tSeg); exact rfl; exact rfl; exact rfl; (focus (repeat (first | apply List.Mem.head | apply List.Mem.tail | apply List.mem_append_right))); exact put_seg _ _; exact rfl; simp [encSeg]; exact one_seg _; (focus (repeat (first | apply Upd.head | apply Upd.tail))); clear hR; intro w hR))
    go_upto_if 52 with (first
    | ((with_reducible apply q_ls hR); exact rfl; (with_reducible apply t_cmp); (apply EvC.now; exact rfl); (apply EvC.now; exact rfl); exact n00; (simp only [List.set_cons_succ, List.set_cons_zero]; exact rfl); clear hR; intro w hR))
    refine wp_cond_at (nm := false) rfl rfl (fun h => absurd h (by decide)) (fun _ => ?_)
    go_wp2_with (first
    | ((with_reducible apply q_ls hR); exact rfl; ((with_reducible first | apply t_addr (fRec _ (by decide)) | apply t_addr (fSeg _ (by decide)) | apply t_one tByteR | apply t_one tSlR | apply t_one tIntR | apply t_one tWordS | apply t_part tSeg) <;> (first | (apply EvC.gv; exact rfl; (with_reducible first | exact Imp.refl _ | (apply Imp.left; exact Imp.refl _) | (apply Imp.right; exact Imp.refl _) | (apply Imp.left; apply Imp.left; exact Imp.refl _))) | (apply EvC.now; exact rfl) | exact rfl | (with_reducible exact EvAll.nil) | (focus (repeat (first | apply EvAll.cons | exact EvAll.nil | (apply EvC.gv; exact rfl; (with_reducible first | exact Imp.refl _ | (apply Imp.left; exact Imp.refl _) | (apply Imp.right; exact Imp.refl _) | (apply Imp.left; apply Imp.left; exact Imp.refl _))) | (apply EvC.now; exact rfl))); done) | exact ext_seg _ | (focus (repeat (first | apply List.Mem.head | apply List.Mem.tail | apply List.mem_append_right))))); (simp only [List.set_cons_succ, List.set_cons_zero]; exact rfl); clear hR; intro w hR))
    refine (segSeg_yes d2 h2o hm2 _).mono ?_
    rintro e w2 ⟨sr, vr, rfl, hO, hV⟩
    replace hR := hR.join hO
    have hVn := hV _ _ _ hO fun _ h => h
    clear hO
    go_upto_region 11 with (first
    | ((with_reducible apply wpList_make hR zRec); exact rfl; clear hR; intro g w hR; simp only [List.set_cons_succ, List.set_cons_zero])
    | ((with_reducible apply wpList_put hR tRec); exact rfl; exact rfl; exact rfl; (focus (repeat (first | apply List.Mem.head | apply List.Mem.tail | apply List.mem_append_right))); exact put_rec _ _ _ _; exact rfl; simp; exact one_rec _ hVn; (focus (repeat (first | apply Upd.head | apply Upd.tail))); clear hR; intro w hR))
    go_wp2_with (first
    | ((with_reducible apply q_ls hR); exact rfl; ((with_reducible first | apply t_addr (fRec _ (by decide)) | apply t_addr (fSeg _ (by decide)) | apply t_one tByteR | apply t_one tSlR | apply t_one tIntR | apply t_one tWordS | apply t_part tSeg) <;> (first | (apply EvC.gv; exact rfl; (with_reducible first | exact Imp.refl _ | (apply Imp.left; exact Imp.refl _) | (apply Imp.right; exact Imp.refl _) | (apply Imp.left; apply Imp.left; exact Imp.refl _))) | (apply EvC.now; exact rfl) | exact rfl | (with_reducible exact EvAll.nil) | (focus (repeat (first | apply EvAll.cons | exact EvAll.nil | (apply EvC.gv; exact rfl; (with_reducible first | exact Imp.refl _ | (apply Imp.left; exact Imp.refl _) | (apply Imp.right; exact Imp.refl _) | (apply Imp.left; apply Imp.left; exact Imp.refl _))) | (apply EvC.now; exact rfl))); done) | exact ext_seg _ | (focus (repeat (first | apply List.Mem.head | apply List.Mem.tail | apply List.mem_append_right))))); (simp only [List.set_cons_succ, List.set_cons_zero]; exact rfl); clear hR; intro w hR))
    refine (segDef_back (hV _ _ _ hR (fun r h => .tail _ (List.mem_append_left _ h))) h2m h2o).mono ?_
    rintro e w3 ⟨rfl, hb⟩
    replace hR := hR.grow hb
    clear hb
    have HLE := Lib.hid (show cmpB .leq ((segB d2).length : Int) (ys.length : Int) = some true from congrArg some (decide_eq_true (by omega)))
    go_upto_region 12 with (first
    | ((with_reducible apply wpList_make hR zSeg); exact rfl; clear hR; intro g w hR; simp only [List.set_cons_succ, List.set_cons_zero])
    | ((with_reducible apply wpList_put hR tSeg); exact rfl; exact rfl; exact rfl; (focus (repeat (first | apply List.Mem.head | apply List.Mem.tail | apply List.mem_append_right))); exact put_seg _ _; exact rfl; simp [encSeg]; exact one_seg _; (focus (repeat (first | apply Upd.head | apply Upd.tail))); clear hR; intro w hR))
    refine wp_region_tame hR [0, 1, 2, 3, 4, 5, 6, 7, 8, 9, 10, 11, 12, 13, 14, 15, 16, 17, 18, 19, 20, 21, 22, 23, 24, 25] rfl ?_
    repeat (refine wpT_step rfl ?_; first
    | ((with_reducible apply q_kn); exact rfl; (with_reducible apply t_call Try.call8); (first | (apply EvC.gv; exact rfl; (with_reducible first | exact Imp.refl _ | (apply Imp.left; exact Imp.refl _) | (apply Imp.right; exact Imp.refl _) | (apply Imp.left; apply Imp.left; exact Imp.refl _))) | (apply EvC.now; exact rfl) | exact rfl | (with_reducible exact EvAll.nil) | (focus (repeat (first | apply EvAll.cons | exact EvAll.nil | (apply EvC.gv; exact rfl; (with_reducible first | exact Imp.refl _ | (apply Imp.left; exact Imp.refl _) | (apply Imp.right; exact Imp.refl _) | (apply Imp.left; apply Imp.left; exact Imp.refl _))) | (apply EvC.now; exact rfl))); done) | exact ext_seg _ | (focus (repeat (first | apply List.Mem.head | apply List.Mem.tail | apply List.mem_append_right)))); (intro hcc w hC; exact tame_below (awake21_any _) hC); (simp only [List.set_cons_succ, List.set_cons_zero]; exact rfl))
    | ((with_reducible apply q_kn); exact rfl; (with_reducible apply t_call Try.call10); (first | (apply EvC.gv; exact rfl; (with_reducible first | exact Imp.refl _ | (apply Imp.left; exact Imp.refl _) | (apply Imp.right; exact Imp.refl _) | (apply Imp.left; apply Imp.left; exact Imp.refl _))) | (apply EvC.now; exact rfl) | exact rfl | (with_reducible exact EvAll.nil) | (focus (repeat (first | apply EvAll.cons | exact EvAll.nil | (apply EvC.gv; exact rfl; (with_reducible first | exact Imp.refl _ | (apply Imp.left; exact Imp.refl _) | (apply Imp.right; exact Imp.refl _) | (apply Imp.left; apply Imp.left; exact Imp.refl _))) | (apply EvC.now; exact rfl))); done) | exact ext_seg _ | (focus (repeat (first | apply List.Mem.head | apply List.Mem.tail | apply List.mem_append_right)))); (intro hcc w hC; exact tame_below (HREF.out _) hC); (simp only [List.set_cons_succ, List.set_cons_zero]; exact rfl))
    | ((with_reducible apply q_kn); exact rfl; (with_reducible apply t_lenW Try.underlying26); (apply EvC.now; exact rfl); (first | exact hVn | exact hS); (simp only [List.set_cons_succ, List.set_cons_zero]; exact rfl))
    | ((with_reducible apply q_kn); exact rfl; (with_reducible apply t_eql gSeg); (apply EvC.now; exact rfl); (apply EvC.now; exact rfl); exact eqS_self _; (simp only [List.set_cons_succ, List.set_cons_zero]; exact rfl))
    | ((with_reducible apply q_kn); exact rfl; (with_reducible apply t_cmp); (apply EvC.now; exact rfl); (apply EvC.now; exact rfl); (with_reducible first | exact HLE.out | exact cmp_selfS _); (simp only [List.set_cons_succ, List.set_cons_zero]; exact rfl))
    | ((with_reducible apply q_kn); exact rfl; ((with_reducible first | apply t_addr (fRec _ (by decide)) | apply t_addr (fSeg _ (by decide)) | apply t_one tByteR | apply t_one tSlR | apply t_one tIntR | apply t_one tWordS | apply t_part tSeg) <;> (first | (apply EvC.gv; exact rfl; (with_reducible first | exact Imp.refl _ | (apply Imp.left; exact Imp.refl _) | (apply Imp.right; exact Imp.refl _) | (apply Imp.left; apply Imp.left; exact Imp.refl _))) | (apply EvC.now; exact rfl) | exact rfl | (with_reducible exact EvAll.nil) | (focus (repeat (first | apply EvAll.cons | exact EvAll.nil | (apply EvC.gv; exact rfl; (with_reducible first | exact Imp.refl _ | (apply Imp.left; exact Imp.refl _) | (apply Imp.right; exact Imp.refl _) | (apply Imp.left; apply Imp.left; exact Imp.refl _))) | (apply EvC.now; exact rfl))); done) | exact ext_seg _ | (focus (repeat (first | apply List.Mem.head | apply List.Mem.tail | apply List.mem_append_right))))); (simp only [List.set_cons_succ, List.set_cons_zero]; exact rfl))
    | ((with_reducible apply q_kn); exact rfl; (first | ((with_reducible first | apply t_move | apply t_assign | apply t_addr (fRec _ (by decide)) | apply t_addr (fSeg _ (by decide)) | apply t_one tByteR | apply t_one tSlR | apply t_one tIntR | apply t_one tWordS | apply t_part tSeg) <;> (first | (apply EvC.gv; exact rfl; (with_reducible first | exact Imp.refl _ | (apply Imp.left; exact Imp.refl _) | (apply Imp.right; exact Imp.refl _) | (apply Imp.left; apply Imp.left; exact Imp.refl _))) | (apply EvC.now; exact rfl) | exact rfl | (with_reducible exact EvAll.nil) | (focus (repeat (first | apply EvAll.cons | exact EvAll.nil | (apply EvC.gv; exact rfl; (with_reducible first | exact Imp.refl _ | (apply Imp.left; exact Imp.refl _) | (apply Imp.right; exact Imp.refl _) | (apply Imp.left; apply Imp.left; exact Imp.refl _))) | (apply EvC.now; exact rfl))); done) | exact ext_seg _ | (focus (repeat (first | apply List.Mem.head | apply List.Mem.tail | apply List.mem_append_right))))) | ((with_reducible apply t_pick); (apply EvC.now; exact rfl); (apply EvC.now; exact rfl))); (simp only [List.set_cons_succ, List.set_cons_zero]; exact rfl)))
    refine wpT_nil ?_
    clear hR; intro w hR
    go_wp2_with fail
    go_ret
    exact ⟨rfl, (hZ.own hR).below⟩
  · skip
    go_upto_region 8 with (first
        | ((with_reducible apply wpList_make hR zSeg); exact rfl; clear hR; intro g w hR; simp only [List.set_cons_succ, List.set_cons_zero])
        | ((with_reducible apply wpList_put hR tSeg); exact rfl; exact rfl; exact rfl; (focus (repeat (first | apply List.Mem.head | apply List.Mem.tail | apply List.mem_append_right))); exact put_seg _ _; exact rfl; simp [encSeg]; exact one_seg _; (focus (repeat (first | apply Upd.head | apply Upd.tail))); clear hR; intro w hR))
    go_upto_if 52 with (first
        | ((with_reducible apply q_ls hR); exact rfl; (with_reducible apply t_cmp); (apply EvC.now; exact rfl); (apply EvC.now; exact rfl); exact n20; (simp only [List.set_cons_succ, List.set_cons_zero]; exact rfl); clear hR; intro w hR))
    refine wp_cond_at (nm := true) rfl rfl (fun _ => ?_) (fun h => absurd h (by decide))
    go_upto_region 9 with fail
    refine wp_region_tame hR [0, 1, 2, 3, 4, 5, 6, 7, 8, 9, 10, 11, 12, 13, 14] rfl ?_
    repeat (refine wpT_step rfl ?_; first
        | ((with_reducible apply q_kn); exact rfl; (with_reducible apply t_call Try.call8); (first | (apply EvC.gv; exact rfl; (with_reducible first | exact Imp.refl _ | (apply Imp.left; exact Imp.refl _) | (apply Imp.right; exact Imp.refl _) | (apply Imp.left; apply Imp.left; exact Imp.refl _))) | (apply EvC.now; exact rfl) | exact rfl | (with_reducible exact EvAll.nil) | (focus (repeat (first | apply EvAll.cons | exact EvAll.nil | (apply EvC.gv; exact rfl; (with_reducible first | exact Imp.refl _ | (apply Imp.left; exact Imp.refl _) | (apply Imp.right; exact Imp.refl _) | (apply Imp.left; apply Imp.left; exact Imp.refl _))) | (apply EvC.now; exact rfl))); done) | exact ext_seg _ | (focus (repeat (first | apply List.Mem.head | apply List.Mem.tail | apply List.mem_append_right)))); (intro hcc w hC; exact tame_below (awake21_any _) hC); (simp only [List.set_cons_succ, List.set_cons_zero]; exact rfl))
        | ((with_reducible apply q_kn); exact rfl; (with_reducible apply t_built); exact rfl; exact bZ; (simp only [List.set_cons_succ, List.set_cons_zero]; exact rfl))
        | ((with_reducible apply q_kn); exact rfl; (with_reducible apply t_eql gSeg); (apply EvC.now; exact rfl); (apply EvC.now; exact rfl); exact eqS_self _; (simp only [List.set_cons_succ, List.set_cons_zero]; exact rfl))
        | ((with_reducible apply q_kn); exact rfl; (with_reducible apply t_cmp); (apply EvC.now; exact rfl); (apply EvC.now; exact rfl); (with_reducible first | exact cmp_selfS _ | exact e32); (simp only [List.set_cons_succ, List.set_cons_zero]; exact rfl))
        | ((with_reducible apply q_kn); exact rfl; ((with_reducible first | apply t_addr (fRec _ (by decide)) | apply t_addr (fSeg _ (by decide)) | apply t_one tByteR | apply t_one tSlR | apply t_one tIntR | apply t_one tWordS | apply t_part tSeg) <;> (first | (apply EvC.gv; exact rfl; (with_reducible first | exact Imp.refl _ | (apply Imp.left; exact Imp.refl _) | (apply Imp.right; exact Imp.refl _) | (apply Imp.left; apply Imp.left; exact Imp.refl _))) | (apply EvC.now; exact rfl) | exact rfl | (with_reducible exact EvAll.nil) | (focus (repeat (first | apply EvAll.cons | exact EvAll.nil | (apply EvC.gv; exact rfl; (with_reducible first | exact Imp.refl _ | (apply Imp.left; exact Imp.refl _) | (apply Imp.right; exact Imp.refl _) | (apply Imp.left; apply Imp.left; exact Imp.refl _))) | (apply EvC.now; exact rfl))); done) | exact ext_seg _ | (focus (repeat (first | apply List.Mem.head | apply List.Mem.tail | apply List.mem_append_right))))); (simp only [List.set_cons_succ, List.set_cons_zero]; exact rfl))
        | ((with_reducible apply q_kn); exact rfl; (first | ((with_reducible first | apply t_move | apply t_assign | apply t_addr (fRec _ (by decide)) | apply t_addr (fSeg _ (by decide)) | apply t_one tByteR | apply t_one tSlR | apply t_one tIntR | apply t_one tWordS | apply t_part tSeg) <;> (first | (apply EvC.gv; exact rfl; (with_reducible first | exact Imp.refl _ | (apply Imp.left; exact Imp.refl _) | (apply Imp.right; exact Imp.refl _) | (apply Imp.left; apply Imp.left; exact Imp.refl _))) | (apply EvC.now; exact rfl) | exact rfl | (with_reducible exact EvAll.nil) | (focus (repeat (first | apply EvAll.cons | exact EvAll.nil | (apply EvC.gv; exact rfl; (with_reducible first | exact Imp.refl _ | (apply Imp.left; exact Imp.refl _) | (apply Imp.right; exact Imp.refl _) | (apply Imp.left; apply Imp.left; exact Imp.refl _))) | (apply EvC.now; exact rfl))); done) | exact ext_seg _ | (focus (repeat (first | apply List.Mem.head | apply List.Mem.tail | apply List.mem_append_right))))) | ((with_reducible apply t_pick); (apply EvC.now; exact rfl); (apply EvC.now; exact rfl))); (simp only [List.set_cons_succ, List.set_cons_zero]; exact rfl))
        | ((with_reducible apply wpT1_skipL); exact rfl; (simp only [List.set_cons_succ, List.set_cons_zero]; exact rfl)))
    refine wpT_nil ?_
    clear hR; intro w hR
    go_wp2_with fail
    go_ret
    exact ⟨rfl, (hZ.own hR).below⟩
  · skip
    go_upto_region 8 with (first
        | ((with_reducible apply wpList_make hR zSeg); exact rfl; clear hR; intro g w hR; simp only [List.set_cons_succ, List.set_cons_zero])
        | ((with_reducible apply wpList_put hR tSeg); exact rfl; exact rfl; exact rfl; (focus (repeat (first | apply List.Mem.head | apply List.Mem.tail | apply List.mem_append_right))); exact put_seg _ _; exact rfl; simp [encSeg]; exact one_seg _; (focus (repeat (first | apply Upd.head | apply Upd.tail))); clear hR; intro w hR))
    go_upto_if 52 with (first
        | ((with_reducible apply q_ls hR); exact rfl; (with_reducible apply t_cmp); (apply EvC.now; exact rfl); (apply EvC.now; exact rfl); exact n30; (simp only [List.set_cons_succ, List.set_cons_zero]; exact rfl); clear hR; intro w hR))
    refine wp_cond_at (nm := true) rfl rfl (fun _ => ?_) (fun h => absurd h (by decide))
    go_upto_region 9 with fail
    refine wp_region_tame hR [0, 1, 2, 3, 4, 5, 6, 7, 8, 9, 10, 11, 12, 13, 14] rfl ?_
    repeat (refine wpT_step rfl ?_; first
        | ((with_reducible apply q_kn); exact rfl; (with_reducible apply t_call Try.call8); (first | (apply EvC.gv; exact rfl; (with_reducible first | exact Imp.refl _ | (apply Imp.left; exact Imp.refl _) | (apply Imp.right; exact Imp.refl _) | (apply Imp.left; apply Imp.left; exact Imp.refl _))) | (apply EvC.now; exact rfl) | exact rfl | (with_reducible exact EvAll.nil) | (focus (repeat (first | apply EvAll.cons | exact EvAll.nil | (apply EvC.gv; exact rfl; (with_reducible first | exact Imp.refl _ | (apply Imp.left; exact Imp.refl _) | (apply Imp.right; exact Imp.refl _) | (apply Imp.left; apply Imp.left; exact Imp.refl _))) | (apply EvC.now; exact rfl))); done) | exact ext_seg _ | (focus (repeat (first | apply List.Mem.head | apply List.Mem.tail | apply List.mem_append_right)))); (intro hcc w hC; exact tame_below (awake21_any _) hC); (simp only [List.set_cons_succ, List.set_cons_zero]; exact rfl))
        | ((with_reducible apply q_kn); exact rfl; (with_reducible apply t_built); exact rfl; exact bZ; (simp only [List.set_cons_succ, List.set_cons_zero]; exact rfl))
        | ((with_reducible apply q_kn); exact rfl; (with_reducible apply t_eql gSeg); (apply EvC.now; exact rfl); (apply EvC.now; exact rfl); exact eqS_self _; (simp only [List.set_cons_succ, List.set_cons_zero]; exact rfl))
        | ((with_reducible apply q_kn); exact rfl; (with_reducible apply t_cmp); (apply EvC.now; exact rfl); (apply EvC.now; exact rfl); (with_reducible first | exact cmp_selfS _ | exact e32); (simp only [List.set_cons_succ, List.set_cons_zero]; exact rfl))
        | ((with_reducible apply q_kn); exact rfl; ((with_reducible first | apply t_addr (fRec _ (by decide)) | apply t_addr (fSeg _ (by decide)) | apply t_one tByteR | apply t_one tSlR | apply t_one tIntR | apply t_one tWordS | apply t_part tSeg) <;> (first | (apply EvC.gv; exact rfl; (with_reducible first | exact Imp.refl _ | (apply Imp.left; exact Imp.refl _) | (apply Imp.right; exact Imp.refl _) | (apply Imp.left; apply Imp.left; exact Imp.refl _))) | (apply EvC.now; exact rfl) | exact rfl | (with_reducible exact EvAll.nil) | (focus (repeat (first | apply EvAll.cons | exact EvAll.nil | (apply EvC.gv; exact rfl; (with_reducible first | exact Imp.refl _ | (apply Imp.left; exact Imp.refl _) | (apply Imp.right; exact Imp.refl _) | (apply Imp.left; apply Imp.left; exact Imp.refl _))) | (apply EvC.now; exact rfl))); done) | exact ext_seg _ | (focus (repeat (first | apply List.Mem.head | apply List.Mem.tail | apply List.mem_append_right))))); (simp only [List.set_cons_succ, List.set_cons_zero]; exact rfl))
        | ((with_reducible apply q_kn); exact rfl; (first | ((with_reducible first | apply t_move | apply t_assign | apply t_addr (fRec _ (by decide)) | apply t_addr (fSeg _ (by decide)) | apply t_one tByteR | apply t_one tSlR | apply t_one tIntR | apply t_one tWordS | apply t_part tSeg) <;> (first | (apply EvC.gv; exact rfl; (with_reducible first | exact Imp.refl _ | (apply Imp.left; exact Imp.refl _) | (apply Imp.right; exact Imp.refl _) | (apply Imp.left; apply Imp.left; exact Imp.refl _))) | (apply EvC.now; exact rfl) | exact rfl | (with_reducible exact EvAll.nil) | (focus (repeat (first | apply EvAll.cons | exact EvAll.nil | (apply EvC.gv; exact rfl; (with_reducible first | exact Imp.refl _ | (apply Imp.left; exact Imp.refl _) | (apply Imp.right; exact Imp.refl _) | (apply Imp.left; apply Imp.left; exact Imp.refl _))) | (apply EvC.now; exact rfl))); done) | exact ext_seg _ | (focus (repeat (first | apply List.Mem.head | apply List.Mem.tail | apply List.mem_append_right))))) | ((with_reducible apply t_pick); (apply EvC.now; exact rfl); (apply EvC.now; exact rfl))); (simp only [List.set_cons_succ, List.set_cons_zero]; exact rfl))
        | ((with_reducible apply wpT1_skipL); exact rfl; (simp only [List.set_cons_succ, List.set_cons_zero]; exact rfl)))
    refine wpT_nil ?_
    clear hR; intro w hR
    go_wp2_with fail
    go_ret
    exact ⟨rfl, (hZ.own hR).below⟩

set_option maxRecDepth 100000 in
theorem lifted (os : Os) (started : os.Started) (H : Type) (enc : TypeId × Value → H) :
    ReturnsInHanded {} Try.checked os 4 .any (Rows.segsAnySpec.pre6 enc Try.prog Try.f4 Rows.segsAnyRow.domain false) (Rows.segsAnySpec.post enc Try.prog Try.f4 false true false false) := by
  refine returnsInHanded_of_change (C := Try.checked) own started (by kernel_rfl) Try.func4
    (ChangeSpec.witness6 (enc := enc) (C := Try.checked) false ⟨#[], #[.agg (encSeg zeroS), .int .i64 0, .slice none 0 0], []⟩ 8 (by kernel_rfl) (by kernel_rfl) (by kernel_rfl) (by kernel_rfl)) ?_
  intro W base args ds gs before hval0 hW hcnd _
  have hval : ∀ (j : Nat) t v, Try.f4.params[j]? = some t → args[j]? = some v → Value.okWide Try.prog W .any base t v := hval0
  have hW' := hW
  obtain ⟨p, q, hA0, hV, rfl, hfz, hnd⟩ := hW
  have hA : DataW.TrodAll enc Try.prog W 0 (fun _ => true) true Try.f4.params.toList args.toList ds p := hA0
  rw [Try.params4] at hA hval
  obtain ⟨v0, vs0, d0, ds0, p0, q0, hargs, rfl, rfl, h0, r0⟩ := trodAll_cons hA
  obtain ⟨v1, vs1, d1, ds1, p1, q1, rfl, rfl, rfl, h1, r1⟩ := trodAll_cons r0
  obtain ⟨v2, vs2, d2, ds2, p2, q2, rfl, rfl, rfl, h2, r2⟩ := trodAll_cons r1
  obtain ⟨rfl, rfl, rfl⟩ := trodAll_nil r2
  obtain rfl : args = #[v0, v1, v2] := by cases args; simp_all
  obtain ⟨rfl, rfl⟩ := trodVars_none hV
  have k0 := h0
  have lt0 : ∀ x ∈ p0, x.block < W.heap.size := by obtain ⟨m, hm⟩ := k0; exact DataW.trod_lt m _ _ _ hm
  obtain ⟨a1, rfl, rfl, rfl, w1⟩ := open_int Try.underlying3 (hval 1 3 v1 rfl rfl) h1
  have k2 := h2
  have lt2 : ∀ x ∈ p2, x.block < W.heap.size := by obtain ⟨m, hm⟩ := k2; exact DataW.trod_lt m _ _ _ hm
  have o2 := open_bytes (hval 2 26 v2 rfl rfl) h2
  clear hA0 hval0
  refine (walk v0 (hval 0 24 v0 rfl rfl) a1 w1 v2 o2 W).mono fun e W' ⟨he, bel⟩ => ?_
  subst he
  exact ⟨_, rfl, _, _, _, [], _, [], hW', trodAll_mk1 (shut_bool Try.underlying4 _), (trodAll_cons_mk (Below.trod laidOut (by kernel_rfl) (of_decide_eq_true (by kernel_rfl)) k0 bel lt0) (trodAll_cons_mk (shut_int Try.underlying3 w1) (trodAll_cons_mk (Below.trod laidOut (by kernel_rfl) (of_decide_eq_true (by kernel_rfl)) k2 bel lt2) trodAll_mk0))), rfl, bel.frame _, fun h => by cases h⟩

theorem over : Rows.segsAnyRow.holds Try.pinned (OpenSpec.ofChange Rows.segsAnySpec) :=
  OpenClaim.holds_of_wide 4 Try.f4 rfl rfl rfl rfl rfl rfl rfl ⟨rfl, rfl, rfl, rfl, rfl⟩ rfl rfl rfl rfl rfl (by kernel_rfl) Try.func4 (by kernel_rfl)
    (of_decide_eq_true (by kernel_rfl)) (by unfold Func.isWrapper; first | (rw [if_pos (by decide +kernel)]; kernel_rfl) | (rw [if_neg (by decide +kernel)]; exact ⟨rfl, rfl⟩))
    (fun os started H enc _ => lifted os started H enc)

theorem proved : Rows.SegsAnySaid := over
#print axioms proved
end Go.Proofs.Ytmdiemebfmnmkaa.segsAny
